/-
  Cells in memory of the call's own, and what append makes of them.
  The library's slices.Sort, Compact and Equal at ints, and slices.SortFunc at cells: where their functions and types stand in this program.
  slices.SortFunc at cells: by their dots.
-/
import Derived.Test.YtmoicbmhjmdgdaaGreatM02
import Derived.Shelf.SlSortCmp.NoneTotal
import Derived.Shelf.SlGeneric
import Derived.Shelf.Sort.Plain
import Derived.Shelf.Slices.In.SortNone
import Derived.Shelf.Slices.CompactI
import Derived.Shelf.Slices.Equal
import Derived.Test.YtmoicbmhjmdgdaaGreatProg
import Derived.Test.YtmoicbmhjmdgdaaGreatM03
namespace Go.Proofs.YtmoicbmhjmdgdaaGreat
open Go.RowKit Go.Sort

abbrev OwnC (w : World) (base : Nat) (v : Value) (l : List Cel) : Prop := OwnG encC 5 87 w base v l
theorem Tryz.infoC : (Tryz.prog.info? 87).map (fun i => (i.zero, i.size, i.bytes)) = some (some (.agg #[.int .i64 0, .int .i64 0, .int .i64 0, .int .i64 0, .int .i64 0]), 5, 40) := by kernel_rfl

theorem rowNewCl {W : World} {n : Nat} (hn : W.heap.size = n) (x : Cel) (T : TypeId) : RowC (W.alloc (.cells #[.int .i64 x.1.1, .int .i64 x.1.2, .int .i64 x.2.1, .int .i64 x.2.2.1, .int .i64 x.2.2.2] T)) (some ⟨n, 0, none⟩) [x] := by
 subst hn
 refine Or.inr ⟨W.heap.size, 0, rfl, by simp, fun j hj i hi => ?_⟩
 obtain rfl : j = 0 := by simp at hj; omega
 match i, hi with
 | 0, _ => exact box1 (w := W) (Gr.refl _) (j := 0) rfl
 | 1, _ => exact box1 (w := W) (Gr.refl _) (j := 1) rfl
 | 2, _ => exact box1 (w := W) (Gr.refl _) (j := 2) rfl
 | 3, _ => exact box1 (w := W) (Gr.refl _) (j := 3) rfl
 | 4, _ => exact box1 (w := W) (Gr.refl _) (j := 4) rfl

theorem wpList_append_c (w : World) {ops : Array Oper} {rest : List Oper} {o : Oper} {a : Act} {Q : Exit → Act → World → Prop} (hgd : o.guard = none) (s x : Operand)
  (ho : o.op = .call { callee := .builtin .append, args := #[s, x], argTypes := #[46, 46] })
  (base : Nat) (v : Value) (l m : List Cel) (A : Option Addr) (cap : Nat) (hs : a.eval s = v) (hx : a.eval x = .slice A m.length cap) (hown : OwnC w base v l) (hr : RowC w A m) (hA : A = none → cap = 0)
  (hml : l.length + m.length ≤ maxLen) (hb : (l.length + m.length) * 40 ≤ 140737488355328) (hbase : base ≤ w.heap.size)
  (h : ∀ v' w', OwnC w' base v' (l ++ m) → w.grownBy w' v.ownBlock → wpList Tryz.prog ops Q rest (a.put o.dst v') w') : wpList Tryz.prog ops Q (o :: rest) a w :=
 wpList_plain hgd fun _ hK => wp_append_g encC_len encC_one (by omega) 46 Tryz.underlying46 (.agg #[.int .i64 0, .int .i64 0, .int .i64 0, .int .i64 0, .int .i64 0]) 40 Tryz.infoC rfl w s x ho base v l m A cap hs hx hown hr hA hml hb hbase fun v' w' h2 h3 => hK _ _ (h v' w' h2 h3)

theorem filter_take {p : Cel → Bool} {l : List Cel} {k : Nat} (h : k < l.length) {x : Cel} (hx : l[k] = x) : (l.take (k + 1)).filter p = (l.take k).filter p ++ (if p x then [x] else []) := by
 rw [List.take_succ_eq_append_getElem h, List.filter_append, hx]
 cases hq : p x <;> simp [hq]
theorem filter_le (p : Cel → Bool) (l : List Cel) (k : Nat) : ((l.take k).filter p).length ≤ l.length := Nat.le_trans (List.length_filter_le _ _) (by rw [List.length_take]; omega)

end Go.Proofs.YtmoicbmhjmdgdaaGreat

namespace Go.Proofs
open Go.Shelf
def Tryz.sortInt_ren : Go.Shelf.Ren := ⟨fun | 189 => 71 | 125 => 84 | 257 => 88 | 128 => 115 | 129 => 116 | 294 => 118 | 295 => 119 | 296 => 120 | 297 => 121 | 298 => 122 | 299 => 123 | 216 => 124 | 300 => 125 | 301 => 126 | 328 => 152 | 329 => 148 | 330 => 149 | 331 => 153 | 332 => 154 | 215 => 117 | 343 => 168 | n => n, fun | 28 => 28 | 3 => 3 | 46 => 142 | 0 => 0 | 51 => 179 | 53 => 181 | 4 => 4 | 183 => 173 | 182 => 172 | 131 => 124 | 5 => 5 | 9 => 9 | 218 => 202 | 222 => 192 | 228 => 216 | 229 => 217 | n => n, fun | n => n⟩
theorem Tryz.sortInt : Go.Proofs.Lays.n189 Tryz.prog Tryz.sortInt_ren := {
 mixed := by kernel_rfl
 f125 := Tryz.func84.trans (congrArg some (by kernel_rfl))
 f128 := Tryz.func115.trans (congrArg some (by kernel_rfl))
 f129 := Tryz.func116.trans (congrArg some (by kernel_rfl))
 f189 := Tryz.func71.trans (congrArg some (by kernel_rfl))
 f215 := Tryz.func117.trans (congrArg some (by kernel_rfl))
 f216 := Tryz.func124.trans (congrArg some (by kernel_rfl))
 f257 := Tryz.func88.trans (congrArg some (by kernel_rfl))
 f294 := Tryz.func118.trans (congrArg some (by kernel_rfl))
 f295 := Tryz.func119.trans (congrArg some (by kernel_rfl))
 f296 := Tryz.func120.trans (congrArg some (by kernel_rfl))
 f297 := Tryz.func121.trans (congrArg some (by kernel_rfl))
 f298 := Tryz.func122.trans (congrArg some (by kernel_rfl))
 f299 := Tryz.func123.trans (congrArg some (by kernel_rfl))
 f300 := Tryz.func125.trans (congrArg some (by kernel_rfl))
 f301 := Tryz.func126.trans (congrArg some (by kernel_rfl))
 f328 := Tryz.func152.trans (congrArg some (by kernel_rfl))
 f329 := Tryz.func148.trans (congrArg some (by kernel_rfl))
 f330 := Tryz.func149.trans (congrArg some (by kernel_rfl))
 f331 := Tryz.func153.trans (congrArg some (by kernel_rfl))
 f332 := Tryz.func154.trans (congrArg some (by kernel_rfl))
 f343 := Tryz.func168.trans (congrArg some (by kernel_rfl))
 t0 := Tryz.underlying0
 a0 := Tryz.isAgg0
 z0 := Tryz.sizeOf0
 v0 := Tryz.zeroValue0
 t3 := Tryz.underlying3
 a3 := Tryz.isAgg3
 z3 := Tryz.sizeOf3
 v3 := Tryz.zeroValue3
 t4 := Tryz.underlying4
 a4 := Tryz.isAgg4
 z4 := Tryz.sizeOf4
 v4 := Tryz.zeroValue4
 t5 := Tryz.underlying5
 a5 := Tryz.isAgg5
 z5 := Tryz.sizeOf5
 v5 := Tryz.zeroValue5
 t9 := Tryz.underlying9
 a9 := Tryz.isAgg9
 z9 := Tryz.sizeOf9
 v9 := Tryz.zeroValue9
 t28 := Tryz.underlying28
 a28 := Tryz.isAgg28
 z28 := Tryz.sizeOf28
 v28 := Tryz.zeroValue28
 t46 := Tryz.underlying142
 a46 := Tryz.isAgg142
 z46 := Tryz.sizeOf142
 v46 := Tryz.zeroValue142
 t51 := Tryz.underlying179
 a51 := Tryz.isAgg179
 z51 := Tryz.sizeOf179
 v51 := Tryz.zeroValue179
 t53 := Tryz.underlying181
 a53 := Tryz.isAgg181
 z53 := Tryz.sizeOf181
 v53 := Tryz.zeroValue181
 t131 := Tryz.underlying124
 a131 := Tryz.isAgg124
 z131 := Tryz.sizeOf124
 v131 := Tryz.zeroValue124
 t182 := Tryz.underlying172
 a182 := Tryz.isAgg172
 z182 := Tryz.sizeOf172
 v182 := Tryz.zeroValue172
 t183 := Tryz.underlying173
 a183 := Tryz.isAgg173
 z183 := Tryz.sizeOf173
 v183 := Tryz.zeroValue173
 t218 := Tryz.underlying202
 a218 := Tryz.isAgg202
 z218 := Tryz.sizeOf202
 v218 := Tryz.zeroValue202
 t222 := Tryz.underlying192
 a222 := Tryz.isAgg192
 z222 := Tryz.sizeOf192
 v222 := Tryz.zeroValue192
 t228 := Tryz.underlying216
 a228 := Tryz.isAgg216
 z228 := Tryz.sizeOf216
 v228 := Tryz.zeroValue216
 t229 := Tryz.underlying217
 a229 := Tryz.isAgg217
 z229 := Tryz.sizeOf217
 v229 := Tryz.zeroValue217 }
def Tryz.compactInt_ren : Go.Shelf.Ren := ⟨fun | 20 => 72 | n => n, fun | 22 => 28 | 3 => 3 | 4 => 4 | 0 => 0 | n => n, fun | n => n⟩
theorem Tryz.compactInt : Go.Proofs.Lays2.n20 Tryz.prog Tryz.compactInt_ren := {
 mixed := by kernel_rfl
 f20 := Tryz.func72.trans (congrArg some (by kernel_rfl))
 t0 := Tryz.underlying0
 a0 := Tryz.isAgg0
 z0 := Tryz.sizeOf0
 v0 := Tryz.zeroValue0
 t3 := Tryz.underlying3
 a3 := Tryz.isAgg3
 z3 := Tryz.sizeOf3
 v3 := Tryz.zeroValue3
 t4 := Tryz.underlying4
 a4 := Tryz.isAgg4
 z4 := Tryz.sizeOf4
 v4 := Tryz.zeroValue4
 t22 := Tryz.underlying28
 a22 := Tryz.isAgg28
 z22 := Tryz.sizeOf28
 v22 := Tryz.zeroValue28
 i3 := by kernel_rfl }
def Tryz.equalInt_ren : Go.Shelf.Ren := ⟨fun | 111 => 23 | n => n, fun | 28 => 28 | 3 => 3 | 4 => 4 | 0 => 0 | n => n, fun | n => n⟩
theorem Tryz.equalInt : Go.Proofs.Lays.n111 Tryz.prog Tryz.equalInt_ren := {
 mixed := by kernel_rfl
 f111 := Tryz.func23.trans (congrArg some (by kernel_rfl))
 t0 := Tryz.underlying0
 a0 := Tryz.isAgg0
 z0 := Tryz.sizeOf0
 v0 := Tryz.zeroValue0
 t3 := Tryz.underlying3
 a3 := Tryz.isAgg3
 z3 := Tryz.sizeOf3
 v3 := Tryz.zeroValue3
 t4 := Tryz.underlying4
 a4 := Tryz.isAgg4
 z4 := Tryz.sizeOf4
 v4 := Tryz.zeroValue4
 t28 := Tryz.underlying28
 a28 := Tryz.isAgg28
 z28 := Tryz.sizeOf28
 v28 := Tryz.zeroValue28 }
def Tryz.sortCell_ren : Go.Shelf.Ren := ⟨fun | 6 => 65 | 15 => 84 | 14 => 83 | 28 => 115 | 29 => 116 | 20 => 107 | 21 => 108 | 22 => 109 | 23 => 110 | 24 => 111 | 25 => 112 | 26 => 113 | 27 => 114 | 46 => 147 | 47 => 148 | 48 => 149 | 49 => 150 | 50 => 151 | 57 => 167 | n => n, fun | 22 => 46 | 24 => 87 | 25 => 111 | 3 => 3 | 39 => 142 | 0 => 0 | 53 => 179 | 55 => 181 | 4 => 4 | 46 => 173 | 45 => 172 | 50 => 124 | 5 => 5 | 9 => 9 | 66 => 202 | 70 => 192 | 76 => 216 | 77 => 217 | n => n, fun | n => n⟩
theorem Tryz.sortCell : Go.Proofs.SlLaysF0.n6 Tryz.prog Tryz.sortCell_ren := {
 mixed := by kernel_rfl
 f6 := ⟨Tryz.f65.name, by decide, Tryz.func65.trans (congrArg some (by kernel_rfl))⟩
 f14 := ⟨Tryz.f83.name, by decide, Tryz.func83.trans (congrArg some (by kernel_rfl))⟩
 f15 := Tryz.func84.trans (congrArg some (by kernel_rfl))
 f20 := ⟨Tryz.f107.name, by decide, Tryz.func107.trans (congrArg some (by kernel_rfl))⟩
 f21 := ⟨Tryz.f108.name, by decide, Tryz.func108.trans (congrArg some (by kernel_rfl))⟩
 f22 := ⟨Tryz.f109.name, by decide, Tryz.func109.trans (congrArg some (by kernel_rfl))⟩
 f23 := ⟨Tryz.f110.name, by decide, Tryz.func110.trans (congrArg some (by kernel_rfl))⟩
 f24 := ⟨Tryz.f111.name, by decide, Tryz.func111.trans (congrArg some (by kernel_rfl))⟩
 f25 := ⟨Tryz.f112.name, by decide, Tryz.func112.trans (congrArg some (by kernel_rfl))⟩
 f26 := ⟨Tryz.f113.name, by decide, Tryz.func113.trans (congrArg some (by kernel_rfl))⟩
 f27 := ⟨Tryz.f114.name, by decide, Tryz.func114.trans (congrArg some (by kernel_rfl))⟩
 f28 := Tryz.func115.trans (congrArg some (by kernel_rfl))
 f29 := Tryz.func116.trans (congrArg some (by kernel_rfl))
 f46 := ⟨Tryz.f147.name, by decide, Tryz.func147.trans (congrArg some (by kernel_rfl))⟩
 f47 := Tryz.func148.trans (congrArg some (by kernel_rfl))
 f48 := Tryz.func149.trans (congrArg some (by kernel_rfl))
 f49 := ⟨Tryz.f150.name, by decide, Tryz.func150.trans (congrArg some (by kernel_rfl))⟩
 f50 := ⟨Tryz.f151.name, by decide, Tryz.func151.trans (congrArg some (by kernel_rfl))⟩
 f57 := ⟨Tryz.f167.name, by decide, Tryz.func167.trans (congrArg some (by kernel_rfl))⟩
 t0 := Tryz.underlying0
 a0 := Tryz.isAgg0
 z0 := Tryz.sizeOf0
 v0 := Tryz.zeroValue0
 t3 := Tryz.underlying3
 a3 := Tryz.isAgg3
 z3 := Tryz.sizeOf3
 v3 := Tryz.zeroValue3
 t4 := Tryz.underlying4
 a4 := Tryz.isAgg4
 z4 := Tryz.sizeOf4
 v4 := Tryz.zeroValue4
 t5 := Tryz.underlying5
 a5 := Tryz.isAgg5
 z5 := Tryz.sizeOf5
 v5 := Tryz.zeroValue5
 t9 := Tryz.underlying9
 a9 := Tryz.isAgg9
 z9 := Tryz.sizeOf9
 v9 := Tryz.zeroValue9
 t22 := Tryz.underlying46
 a22 := Tryz.isAgg46
 z22 := Tryz.sizeOf46
 v22 := Tryz.zeroValue46
 t25 := Tryz.underlying111
 a25 := Tryz.isAgg111
 z25 := Tryz.sizeOf111
 v25 := Tryz.zeroValue111
 t39 := Tryz.underlying142
 a39 := Tryz.isAgg142
 z39 := Tryz.sizeOf142
 v39 := Tryz.zeroValue142
 t45 := Tryz.underlying172
 a45 := Tryz.isAgg172
 z45 := Tryz.sizeOf172
 v45 := Tryz.zeroValue172
 t46 := Tryz.underlying173
 a46 := Tryz.isAgg173
 z46 := Tryz.sizeOf173
 v46 := Tryz.zeroValue173
 t50 := Tryz.underlying124
 a50 := Tryz.isAgg124
 z50 := Tryz.sizeOf124
 v50 := Tryz.zeroValue124
 t53 := Tryz.underlying179
 a53 := Tryz.isAgg179
 z53 := Tryz.sizeOf179
 v53 := Tryz.zeroValue179
 t55 := Tryz.underlying181
 a55 := Tryz.isAgg181
 z55 := Tryz.sizeOf181
 v55 := Tryz.zeroValue181
 t66 := Tryz.underlying202
 a66 := Tryz.isAgg202
 z66 := Tryz.sizeOf202
 v66 := Tryz.zeroValue202
 t70 := Tryz.underlying192
 a70 := Tryz.isAgg192
 z70 := Tryz.sizeOf192
 v70 := Tryz.zeroValue192
 t76 := Tryz.underlying216
 a76 := Tryz.isAgg216
 z76 := Tryz.sizeOf216
 v76 := Tryz.zeroValue216
 t77 := Tryz.underlying217
 a77 := Tryz.isAgg217
 z77 := Tryz.sizeOf217
 v77 := Tryz.zeroValue217 }
end Go.Proofs

namespace Go.Proofs.YtmoicbmhjmdgdaaGreat
open Go.RowKit Go.Sort Go.Shelf Go.Lib

/-- No two cells have one dot. -/
def UniqD (l : List Cel) : Prop := ∀ x ∈ l, ∀ y ∈ l, x.1 = y.1 → x = y
/-- One cell ahead of another, by their dots. -/
def befC (x y : Cel) : Bool := befB x.1 y.1
/-- The cells of a list, sorted by their dots. -/
def srtC (l : List Cel) : List Cel := l.mergeSort fun x y => !befC y x

theorem befC_iff (x y : Cel) : befC x y = true ↔ x.1.1 < y.1.1 ∨ (x.1.1 = y.1.1 ∧ x.1.2 < y.1.2) := befT_iff _ _
theorem befC_not (x y : Cel) : befC x y = false ↔ y.1.1 < x.1.1 ∨ (x.1.1 = y.1.1 ∧ y.1.2 ≤ x.1.2) := by
 simp [befC, befB]; omega
theorem swoC {cf : Cel → Cel → Int} (hcf : ∀ x y, ltOf cf x y = befC x y) : SWO (ltOf cf) where
 irrefl x := by rw [hcf]; simp [befC, befB]
 trans x y z h1 h2 := by rw [hcf, befC_iff] at *; omega
 ntrans x y z h1 h2 := by rw [hcf, befC_not] at *; omega
theorem srtC_length (l : List Cel) : (srtC l).length = l.length := by simp [srtC]
theorem srtC_perm (l : List Cel) : (srtC l).Perm l := List.mergeSort_perm _ _
theorem srtC_pair (l : List Cel) : (srtC l).Pairwise fun x y => (!befC y x) = true := by
 refine List.pairwise_mergeSort ?_ ?_ _
 ·intro a b c h1 h2
  simp only [Bool.not_eq_true', befC_not] at h1 h2 ⊢
  omega
 ·intro a b
  cases h : befC b a
  ·simp
  ·have : befC a b = false := by rw [befC_not]; rw [befC_iff] at h; omega
   simp [this]
theorem dots_eq {x y : Cel} (h1 : (!befC y x) = true) (h2 : (!befC x y) = true) : x.1 = y.1 := by
 simp only [Bool.not_eq_true', befC_not] at h1 h2
 exact Prod.ext (by omega) (by omega)
theorem srtC_eq {l m : List Cel} (hu : UniqD l) (hp : m.Perm l) (hs : m.Pairwise fun x y => (!befC y x) = true) : m = srtC l := by
 refine List.Perm.eq_of_pairwise (le := fun x y => (!befC y x) = true) ?_ hs (srtC_pair l) (hp.trans (srtC_perm l).symm)
 intro a b ha hb h1 h2
 exact hu a (hp.mem_iff.1 ha) b ((srtC_perm l).mem_iff.1 hb) (dots_eq h1 h2)
/-- Distinct dots, sorted: rising. -/
theorem srtC_asc {l : List Cel} (hn : (l.map (·.1)).Nodup) : Asc (srtC l) := by
 have h1 := srtC_pair l
 have h2 : ((srtC l).map (·.1)).Nodup := ((srtC_perm l).map (·.1)).nodup_iff.2 hn
 have h3 : (srtC l).Pairwise fun x y => x.1 ≠ y.1 := List.pairwise_map.1 h2
 unfold Asc
 refine (h1.and h3).imp ?_
 intro x y ⟨h4, h5⟩
 cases h6 : befB x.1 y.1
 ·exfalso
  refine h5 (dots_eq h4 ?_)
  show (!befB x.1 y.1) = true
  rw [h6]; rfl
 ·rfl

theorem holdsC {w : World} {g : Nat} {l : List Cel} (h : RowC w (some ⟨g, 0, none⟩) l) (hf : ∀ j, w.frozen? ⟨g, j, none⟩ = false) : HoldsK encC 5 w g 0 l.toArray := by
 intro t ht
 rw [size_flatK] at ht
 rw [get_flatK _ _ _ t ht]
 simp only [List.size_toArray] at ht
 have hk : t / 5 < l.length := by omega
 refine ⟨?_, hf _⟩
 obtain ⟨b, off, hA, hb, hc⟩ := h.at hk
 obtain ⟨rfl, rfl⟩ : g = b ∧ 0 = off := by injection hA with hA; injection hA with h1 h2; exact ⟨h1, h2⟩
 have e : l.toArray[t / 5]! = l[t / 5] := by simp [hk]
 rw [e]
 have := hc (t / 5) hk (t % 5) (Nat.mod_lt _ (by omega))
 rw [show 0 + t / 5 * 5 + t % 5 = 0 + t from by omega] at this
 rw [this]
 have hm : t % 5 < 5 := Nat.mod_lt _ (by omega)
 match t % 5, hm with
 | 0, _ => rfl
 | 1, _ => rfl
 | 2, _ => rfl
 | 3, _ => rfl
 | 4, _ => rfl

theorem rowKC {w : World} {g : Nat} {l : List Cel} (h : HoldsK encC 5 w g 0 l.toArray) (hg : g < w.heap.size) : RowC w (some ⟨g, 0, none⟩) l := by
 refine Or.inr ⟨g, 0, rfl, hg, fun j hj i hi => ?_⟩
 have h0 := (h (j * 5 + i) (by rw [size_flatK]; simp; omega)).1
 rw [get_flatK _ _ _ _ (by simp; omega)] at h0
 rw [show (j * 5 + i) / 5 = j from by omega, show (j * 5 + i) % 5 = i from by omega] at h0
 have e : l.toArray[j]! = l[j] := by simp [hj]
 rw [e] at h0
 rw [show 0 + j * 5 + i = 0 + (j * 5 + i) from by omega, h0]
 match i, hi with
 | 0, _ => rfl
 | 1, _ => rfl
 | 2, _ => rfl
 | 3, _ => rfl
 | 4, _ => rfl

theorem below_sortC {w : World} {g n base : Nat} {os : Array Obj} {d : Array Cel} (hb : base ≤ g) (hs : base ≤ w.heap.size) : Go.RowKit.Below base w (sortWorldK encC 5 w g 0 n d os) := by
 refine ⟨rfl, rfl, rfl, by simp [sortWorldK, grow, putRowK], fun k hk => ?_⟩
 show ((putRowK encC 5 (Sort.ahead w n) g 0 d).heap ++ os)[k]? = _
 rw [Array.getElem?_append_left (by simp [putRowK]; omega)]
 show ((Sort.ahead w n).heap.modify g _)[k]? = _
 rw [Array.getElem?_modify, if_neg (by omega)]
 rfl

theorem sortCB {cf : Cel → Cel → Int} (hcf : ∀ x y, ltOf cf x y = befC x y) (fid : Nat) (cb : Array Value) (eg : ∀ args w, (callFunc fid args).run Tryz.prog w = .ok (.enter fid args) w) (g cap : Nat) (l : List Cel) (w : World) (hcmp : CmpLays Tryz.prog fid cb encC 5 cf g 0 l.length w) (hu : UniqD l) (hH : HoldsK encC 5 w g 0 l.toArray) (hg : g < w.heap.size) (hsz : l.length < 4611686018427387904) :
  Calls Tryz.prog 65 #[.slice (some ⟨g, 0, none⟩) l.length cap, .func (.func fid) #[] cb] w fun e w' => e = .returned (.tuple #[]) ∧ RowC w' (some ⟨g, 0, none⟩) (srtC l) ∧ ∀ base, base ≤ g → base ≤ w.heap.size → Go.RowKit.Below base w w' := by
 have hcon := AnyQ.slices_SortFunc Tryz.sortCell 5 Tryz.isAgg87 Tryz.sizeOf87 encC (fun _ => rfl) encC_one cf (swoC hcf) fid cb g 0 cap l.toArray w eg (by simpa using hcmp) hH hg (by simpa using hsz)
 change Calls Tryz.prog 65 _ _ _ at hcon
 simp only [List.size_toArray] at hcon
 refine hcon.mono ?_
 rintro e w' ⟨he, d', n, os, hp, hs, hw⟩
 obtain ⟨hsz', _, hperm⟩ := hp
 simp only [List.size_toArray] at hsz'
 have e1 : d'.extract 0 l.length = d' := by rw [← hsz']; exact Array.extract_size
 have e2 : (l.toArray.extract 0 l.length).toList = l := by simp
 rw [e1, e2] at hperm
 have hpw : d'.toList.Pairwise fun x y => (!befC y x) = true := by
  rw [List.pairwise_iff_getElem]
  intro i j hi hj hij
  have hi' : i < d'.size := by simpa using hi
  have hj' : j < d'.size := by simpa using hj
  have := hs i j (Nat.zero_le _) hij (by omega)
  rw [getElem!_pos d' j hj', getElem!_pos d' i hi', hcf] at this
  simpa using this
 have hd : d' = (srtC l).toArray := by
  have := srtC_eq hu hperm hpw
  rw [← this]
 subst hd
 refine ⟨he, ?_, fun base h1 h2 => by rw [hw]; exact below_sortC h1 h2⟩
 have hH' : HoldsK encC 5 w' g 0 (srtC l).toArray := by
  rw [hw]
  refine holdsK_grow _ _ _ _ _ _ _ (by simp [putRowK]; exact hg) ?_
  exact holdsK_putRowK _ _ _ _ _ l.toArray _ (holdsK_ahead _ _ _ _ _ _ _ hH) (by simp [srtC_length])
 refine rowKC hH' ?_
 rw [hw]
 simp [sortWorldK, grow, putRowK]
 omega

theorem sortOwnC {cf : Cel → Cel → Int} (hcf : ∀ x y, ltOf cf x y = befC x y) (fid : Nat) (cb : Array Value) (eg : ∀ args w, (callFunc fid args).run Tryz.prog w = .ok (.enter fid args) w) (base : Nat) (v : Value) (l : List Cel) (w : World) (hcmp : ∀ g, CmpLays Tryz.prog fid cb encC 5 cf g 0 l.length w) (hu : UniqD l) (hown : OwnC w base v l) (hb : base ≤ w.heap.size) (hsz : l.length < 4611686018427387904) :
  Calls Tryz.prog 65 #[v, .func (.func fid) #[] cb] w fun e w' => e = .returned (.tuple #[]) ∧ (∃ C cap, v = .slice C (srtC l).length cap ∧ RowC w' C (srtC l) ∧ (C = none → cap = 0) ∧ ∀ a, C = some a → base ≤ a.block) ∧ Go.RowKit.Below base w w' := by
 obtain ⟨A, cap, rfl, hA, hrow, hcap, hlt, hfz⟩ := OwnG.full encC_len hown
 by_cases h0 : l = []
 ·subst h0
  have hcon := AnyF.slices_SortFunc_none Tryz.sortCell A cap (.func (.func fid) #[] cb) w
  change Calls Tryz.prog 65 _ _ _ at hcon
  refine hcon.mono ?_
  rintro e w' ⟨he, rfl⟩
  exact ⟨he, ⟨A, cap, by simp [srtC], Or.inl (by simp [srtC]), hA, fun a ha => (hlt a ha).1⟩, Below.refl _ _⟩
 ·have hpos : 0 < l.length := List.length_pos_iff.2 h0
  obtain ⟨b, off, hAe, hbb, _⟩ := hrow.at hpos
  subst hAe
  have h5 := hlt _ rfl
  obtain rfl : off = 0 := h5.2.2.1
  refine (sortCB hcf fid cb eg b cap l w (hcmp b) hu (holdsC hrow (hfz _ rfl)) hbb hsz).mono ?_
  rintro e w' ⟨he, hr', hbel⟩
  refine ⟨he, ⟨_, cap, by rw [srtC_length], hr', hA, fun a ha => (hlt a ha).1⟩, hbel base h5.1 hb⟩

theorem ltOrd (x y : Cel) : ltOf (fun x y : Cel => ordI x.1 y.1) x y = befC x y := by
 unfold ltOf befC
 cases h : befB x.1 y.1
 ·have := ordI_not h
  simp; omega
 ·simp [ordI_bef h]
theorem cmpOrd (blk off size : Nat) (w : World) : CmpLays Tryz.prog 46 #[] encC 5 (fun x y : Cel => ordI x.1 y.1) blk off size w :=
 fun _ _ _ _ x y => orderC_any x y _

end Go.Proofs.YtmoicbmhjmdgdaaGreat
