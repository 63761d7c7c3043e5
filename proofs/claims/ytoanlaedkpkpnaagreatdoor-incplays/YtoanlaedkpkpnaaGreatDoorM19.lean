/-
  viewkeep.counted.
  inc.Feed, taken or refused; views side by side.
  The library's strconv.Itoa: where its functions and types stand in this program.
-/
import Derived.Test.YtoanlaedkpkpnaaGreatDoorM16
import Derived.Test.YtoanlaedkpkpnaaGreatDoorM18
import Derived.Shelf.Strconv.Itoa3
import Derived.Test.YtoanlaedkpkpnaaGreatDoorProg
namespace Go.Proofs.YtoanlaedkpkpnaaGreatDoor
open Go.RowKit Go.Sort Go.Maps

theorem row_lit {α : Type} {enc : α → List Value} {k : Nat} (hk : ∀ x, (enc x).length = k) {W W' : World} {n : Nat} (hn : W.heap.size = n) {cs : Array Value} {T : TypeId} (hg : Gr (W.alloc (.cells cs T)) W') {l : List α} (h : flatG enc l = cs.toList) : RowG enc k W' (some ⟨n, 0, none⟩) l := by
  subst hn
  refine Or.inr ⟨W.heap.size, 0, rfl, Nat.lt_of_lt_of_le (by simp) hg.size, fun j hj i hi => ?_⟩
  have h1 := flatG_get hk l j hj i hi
  have hin : i < (enc l[j]).length := by rw [hk]; exact hi
  rw [List.getElem?_eq_getElem hin] at h1 ⊢
  rw [h, Array.getElem?_toList] at h1
  have := box1 (w := W) hg (j := j * k + i) h1
  rw [show 0 + j * k + i = j * k + i by omega]
  exact this
def cntQ : List Stp := [⟨1, 0, 0, 0, 0, 0, none, 0, []⟩, ⟨8, 0, 0, 1, 0, 0, none, 0, []⟩]
def cntA (n : Nat) : List Itm := [⟨some ⟨n + 1, 0, none⟩, 4, [1, 5, 0, 0], 1⟩, ⟨some ⟨n + 1 + 1, 0, none⟩, 4, [2, 5, 0, 0], 1⟩]
theorem cntA_z (n : Nat) : (cntA n).map Itm.z = [([1, 5, 0, 0], 1), ([2, 5, 0, 0], 1)] := rfl
theorem cnt_e : plnE cntQ [([1, 5, 0, 0], 1), ([2, 5, 0, 0], 1)] [] = 0 ∧ evlF cntQ [([1, 5, 0, 0], 1), ([2, 5, 0, 0], 1)] [] = [([5, 2], 1)] := by decide +kernel
def cntW (w : World) : World := ((((w.alloc (.cells #[.int .i64 1, .int .i64 0, .int .i64 0, .int .i64 0, .int .i64 0, .int .i64 0, .slice none 0 0, .int .i64 8, .int .i64 0, .int .i64 0, .int .i64 1, .int .i64 0, .int .i64 0, .slice none 0 0] 64)).alloc (.cells #[.int .i64 1, .int .i64 5, .int .i64 0, .int .i64 0] 3)).alloc (.cells #[.int .i64 2, .int .i64 5, .int .i64 0, .int .i64 0] 3)).alloc (.cells #[.slice (some ⟨w.heap.size + 1, 0, none⟩) 4 4, .int .i64 1, .slice (some ⟨w.heap.size + 1 + 1, 0, none⟩) 4 4, .int .i64 1] 59))
theorem cnt_gr (w : World) : Gr w (cntW w) := ((((Gr.refl _).alloc _).alloc _).alloc _).alloc _
theorem cnt_q (w : World) : Stps (cntW w) (some ⟨w.heap.size, 0, none⟩) cntQ := by
  refine ⟨row_lit encQ_len rfl ((((Gr.refl _).alloc _).alloc _).alloc _) rfl, fun s hs => ?_⟩
  rcases List.mem_cons.1 hs with e | e
  · rw [e]; exact ⟨Or.inl rfl, by simp [maxLen], fun _ => rfl⟩
  · rw [List.mem_singleton.1 e]; exact ⟨Or.inl rfl, by simp [maxLen], fun _ => rfl⟩
theorem cnt_a (w : World) : Lv (cntW w) (some ⟨w.heap.size + 1 + 1 + 1, 0, none⟩) 2 (cntA w.heap.size) := by
  refine ⟨⟨row_lit encT_len (by simp) (Gr.refl _) rfl, fun x hx => ?_⟩, NilC.mk (fun h => by cases h) (by simp [cntA]), by simp [cntA, maxLen]⟩
  rcases List.mem_cons.1 hx with e | e
  · rw [e]; exact ⟨row_lit encI_len (by simp) (((Gr.refl _).alloc _).alloc _) rfl, by simp [maxLen], fun h => by cases h⟩
  · rw [List.mem_singleton.1 e]; exact ⟨row_lit encI_len (by simp) ((Gr.refl _).alloc _) rfl, by simp [maxLen], fun h => by cases h⟩

end Go.Proofs.YtoanlaedkpkpnaaGreatDoor

namespace Go.Proofs.YtoanlaedkpkpnaaGreatDoor
open Go.RowKit Go.Sort Go.Maps

theorem below_grown {w w' : World} (h : Below w.heap.size w w') (row : Option Nat) : w.grownBy w' row := ⟨h.os, h.tape, h.output, h.size, fun k hk _ => h.block k hk⟩
theorem grown_below {w w' : World} {V n : Nat} (h : w.grownBy w' (some V)) (hV : n ≤ V) (hn : n ≤ w.heap.size) : Below n w w' := ⟨h.os, h.tape, h.output, h.size, fun k hk => h.block k (Nat.lt_of_lt_of_le hk hn) (fun e => by injection e with e; omega)⟩
theorem grown_cell {w w' : World} {V X j : Nat} (h : w.grownBy w' (some V)) (hX : X ≠ V) (hl : X < w.heap.size) : w'.cell? ⟨X, j, none⟩ = w.cell? ⟨X, j, none⟩ := World.cell?_of_block (a := ⟨X, j, none⟩) (h.block X hl (fun e => by injection e with e; exact hX e))
/-- Another view stays as it is. -/
theorem Vw.other {w w' : World} {V V2 : Nat} {q : List Stp} {QA : Option Addr} {cq : Nat} {a : List Itm} {A : Option Addr} {ca : Nat} {b : List Itm} {B : Option Addr} {cb : Nat} (h : Vw w V2 q QA cq a A ca b B cb) (hs : Slo w V) (hne : V2 ≠ V) (hg : w.grownBy w' (some V)) : Vw w' V2 q QA cq a A ca b B cb := by
  have hb : w'.heap[V2]? = w.heap[V2]? := hg.block V2 h.lt (fun e => by injection e with e; exact hne e)
  exact ⟨Nat.lt_of_lt_of_le h.lt hg.size, fun j => (World.frozen?_of_block (a := ⟨V2, j, none⟩) hb).trans (h.fz j), fun j v hv => h.slo j v ((grown_cell hg hne h.lt).symm.trans hv), (grown_cell hg hne h.lt).trans h.c0, (grown_cell hg hne h.lt).trans h.c1, (grown_cell hg hne h.lt).trans h.c2, hs.stps h.st hg, h.len, hs.keep h.la hg, hs.keep h.lb hg⟩

theorem feed_either (w : World) (V : Nat) (q : List Stp) (QA : Option Addr) (cq : Nat) (a : List Itm) (A : Option Addr) (ca : Nat) (b : List Itm) (B : Option Addr) (cb : Nat) (h : Vw w V q QA cq a A ca b B cb) (x y : List Itm) (X Y : Option Addr) (cx cy : Nat) (hx : Lv w X cx x) (hy : Lv w Y cy y) {E : Int} (he : fedE q (a.map Itm.z) (b.map Itm.z) (x.map Itm.z) (y.map Itm.z) = E) :
    Calls Tryz.prog 6 #[.pointer (some ⟨V, 0, none⟩), .slice X x.length cx, .slice Y y.length cy] w fun e w' => ∃ (L : List Itm) (C : Option Addr) (k : Nat) (a' : List Itm) (A' : Option Addr) (ca' : Nat) (b' : List Itm) (B' : Option Addr) (cb' : Nat), e = .returned (.tuple #[.slice C L.length k, .int .i64 E]) ∧ (E = 0 → L.map Itm.z = difL (evlF q (a'.map Itm.z) (b'.map Itm.z)) (evlF q (a.map Itm.z) (b.map Itm.z)) ∧ a'.map Itm.z = addL (a.map Itm.z) (x.map Itm.z) ∧ b'.map Itm.z = addL (b.map Itm.z) (y.map Itm.z)) ∧ (¬ E = 0 → L = [] ∧ a' = a ∧ b' = b) ∧ Vw w' V q QA cq a' A' ca' b' B' cb' ∧ w.grownBy w' (some V) ∧ Lv w' C k L ∧ L.length ≤ 800 := by
  by_cases h0 : E = 0
  · refine (feed_ok w V q QA cq a A ca b B cb h x y X Y cx cy hx hy (by rw [he]; exact h0)).mono ?_
    rintro e w' ⟨L, C, k, a', A', ca', b', B', cb', h1, h2, h3, h4, h5, h6, h7, h8⟩
    exact ⟨L, C, k, a', A', ca', b', B', cb', by rw [h1, h0], fun _ => ⟨h2, h3, h4⟩, fun h => absurd h0 h, h5, h6, h7, h8⟩
  · refine (feed_bad w V q QA cq a A ca b B cb h x y X Y cx cy hx hy (by rw [he]; exact h0)).mono ?_
    rintro e w' ⟨F, h1, h2, h3⟩
    exact ⟨[], none, 0, a, A, ca, b, B, cb, by rw [h1, h2, he]; rfl, fun h => absurd h h0, fun _ => ⟨rfl, rfl, rfl⟩, h.below h3, below_grown h3 _, lv_nil _, by simp⟩
end Go.Proofs.YtoanlaedkpkpnaaGreatDoor

namespace Go.Proofs
open Go.Shelf
def Tryz.lays171_ren : Go.Shelf.Ren := ⟨fun | 171 => 52 | 243 => 67 | 246 => 102 | 283 => 125 | 284 => 126 | 285 => 127 | 286 => 128 | 129 => 77 | 317 => 135 | 318 => 136 | 319 => 137 | 320 => 138 | 337 => 140 | 338 => 141 | n => n, fun | 3 => 3 | 9 => 9 | 2 => 2 | 4 => 4 | 171 => 151 | 0 => 0 | 53 => 111 | 37 => 153 | 5 => 5 | 173 => 154 | 212 => 164 | 51 => 109 | 20 => 20 | 213 => 165 | 46 => 90 | 232 => 167 | 233 => 168 | n => n, fun | 17 => 0 | 18 => 2 | 19 => 3 | n => n⟩
theorem Tryz.lays171 : Go.Proofs.LaysM.n171 Tryz.prog Tryz.lays171_ren := {
  mixed := by kernel_rfl
  f129 := Tryz.func77.trans (congrArg some (by kernel_rfl))
  f171 := Tryz.func52.trans (congrArg some (by kernel_rfl))
  f243 := Tryz.func67.trans (congrArg some (by kernel_rfl))
  f246 := Tryz.func102.trans (congrArg some (by kernel_rfl))
  f283 := Tryz.func125.trans (congrArg some (by kernel_rfl))
  f284 := Tryz.func126.trans (congrArg some (by kernel_rfl))
  f285 := Tryz.func127.trans (congrArg some (by kernel_rfl))
  f286 := Tryz.func128.trans (congrArg some (by kernel_rfl))
  f317 := Tryz.func135.trans (congrArg some (by kernel_rfl))
  f318 := Tryz.func136.trans (congrArg some (by kernel_rfl))
  f319 := Tryz.func137.trans (congrArg some (by kernel_rfl))
  f320 := Tryz.func138.trans (congrArg some (by kernel_rfl))
  f337 := Tryz.func140.trans (congrArg some (by kernel_rfl))
  f338 := Tryz.func141.trans (congrArg some (by kernel_rfl))
  t0 := Tryz.underlying0
  a0 := Tryz.isAgg0
  z0 := Tryz.sizeOf0
  v0 := Tryz.zeroValue0
  t2 := Tryz.underlying2
  a2 := Tryz.isAgg2
  z2 := Tryz.sizeOf2
  v2 := Tryz.zeroValue2
  t3 := Tryz.underlying3
  a3 := Tryz.isAgg3
  z3 := Tryz.sizeOf3
  v3 := Tryz.zeroValue3
  t4 := Tryz.underlying4
  a4 := Tryz.isAgg4
  z4 := Tryz.sizeOf4
  v4 := Tryz.zeroValue4
  t5 := Tryz.underlying5
  a5 := Tryz.isAgg5
  z5 := Tryz.sizeOf5
  v5 := Tryz.zeroValue5
  t9 := Tryz.underlying9
  a9 := Tryz.isAgg9
  z9 := Tryz.sizeOf9
  v9 := Tryz.zeroValue9
  t20 := Tryz.underlying20
  a20 := Tryz.isAgg20
  z20 := Tryz.sizeOf20
  v20 := Tryz.zeroValue20
  t37 := Tryz.underlying153
  a37 := Tryz.isAgg153
  z37 := Tryz.sizeOf153
  v37 := Tryz.zeroValue153
  t46 := Tryz.underlying90
  a46 := Tryz.isAgg90
  z46 := Tryz.sizeOf90
  v46 := Tryz.zeroValue90
  t51 := Tryz.underlying109
  a51 := Tryz.isAgg109
  z51 := Tryz.sizeOf109
  v51 := Tryz.zeroValue109
  t53 := Tryz.underlying111
  a53 := Tryz.isAgg111
  z53 := Tryz.sizeOf111
  v53 := Tryz.zeroValue111
  t171 := Tryz.underlying151
  a171 := Tryz.isAgg151
  z171 := Tryz.sizeOf151
  v171 := Tryz.zeroValue151
  t173 := Tryz.underlying154
  a173 := Tryz.isAgg154
  z173 := Tryz.sizeOf154
  v173 := Tryz.zeroValue154
  t212 := Tryz.underlying164
  a212 := Tryz.isAgg164
  z212 := Tryz.sizeOf164
  v212 := Tryz.zeroValue164
  t213 := Tryz.underlying165
  a213 := Tryz.isAgg165
  z213 := Tryz.sizeOf165
  t232 := Tryz.underlying167
  a232 := Tryz.isAgg167
  z232 := Tryz.sizeOf167
  v232 := Tryz.zeroValue167
  t233 := Tryz.underlying168
  a233 := Tryz.isAgg168
  z233 := Tryz.sizeOf168
  v233 := Tryz.zeroValue168
  g17 := by kernel_rfl
  g18 := by kernel_rfl
  g19 := by kernel_rfl
  i0 := by kernel_rfl
  i2 := by kernel_rfl
  i3 := by kernel_rfl
  i4 := by kernel_rfl
  i5 := by kernel_rfl
  i9 := by kernel_rfl
  i20 := by kernel_rfl
  i37 := by kernel_rfl
  i46 := by kernel_rfl
  i51 := by kernel_rfl
  i53 := by kernel_rfl
  i171 := by kernel_rfl
  i173 := by kernel_rfl
  i212 := by kernel_rfl
  i232 := by kernel_rfl
  i233 := by kernel_rfl
  m17 := by kernel_rfl
  m18 := by kernel_rfl
  m19 := by kernel_rfl }
end Go.Proofs
