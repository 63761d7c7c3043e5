/-
  query.printLine: the line of a step.
-/
import Derived.Test.YtoodkgmpggabdaaDoorTk
import Derived.Test.YtoodkgmpggabdaaDoorQPart
import Derived.Deep.RegionHeld3
import Derived.Deep.Cut
namespace Go.Proofs.YtoodkgmpggabdaaDoor
open Go.RowKit Go.Sort

/-- A step's line. -/
def lineT (s : Stp) : List UInt8 := Lib.join (wordL s.k :: (partL s.k).map (fun p => partT s p.toNat)) [32]
theorem partL_len (k : Int) : (partL k).length ≤ 4 := by
  unfold partL
  repeat' split
  all_goals simp
theorem wordL_len (k : Int) : (wordL k).length ≤ 8 := by
  unfold wordL
  repeat' split
  all_goals simp
theorem partT_len {s : Stp} (h : Fine s) (p : Int) : (partT s p).length ≤ 1000 := by
  unfold partT
  by_cases h1 : p = 79
  · rw [if_pos h1]
    unfold signL
    repeat' split
    all_goals simp
  · rw [if_neg h1]
    by_cases h2 : p = 76
    · rw [if_pos h2]
      have h3 := join_le [44] 21 (s.l.map Lib.itoa) (fun x hx => by
        obtain ⟨n, hn, rfl⟩ := List.mem_map.1 hx
        exact itoa_len (h.l.2 n hn))
      have h4 := h.l.1
      unfold listL
      simp at h3
      omega
    · rw [if_neg h2]
      refine Nat.le_trans (itoa_len ?_) (by omega)
      repeat' split
      all_goals first | exact h.a | exact h.b | exact h.c | exact h.v
theorem part76 {k : Int} (h : (76 : UInt8) ∈ partL k) : k = 3 := by
  unfold partL at h
  by_cases e : k = 3
  · exact e
  · exfalso
    revert h
    repeat' split
    all_goals first | decide | (exfalso; omega) | skip

theorem step_append_x (w : World) {ops : Array Oper} {o : Oper} {a : Act} {K : Act → World → Prop} {Q : Exit → Act → World → Prop} {E : Prop} (hgd : o.guard = none) (s x : Operand)
    (ho : o.op = .call { callee := .builtin .append, args := #[s, x], argTypes := #[36, 36] })
    (base : Nat) (v : Value) (l m : List (List UInt8)) (A : Option Addr) (cap : Nat) (hs : a.eval s = v) (hx : a.eval x = .slice A m.length cap) (hown : OwnX w base v l) (hr : RowX w A m) (hA : A = none → cap = 0)
    (hml : l.length + m.length ≤ maxLen) (hb : (l.length + m.length) * 16 ≤ 140737488355328) (hbase : base ≤ w.heap.size)
    (h : ∀ v' w', OwnX w' base v' (l ++ m) → w.grownBy w' v.ownBlock → K (a.put o.dst v') w') :
    if Region.wanted o (yielded ops a.tmps) = true then Oper.wp Tryd.prog o a w K Q else E := by
  have hw : Region.wanted o (yielded ops a.tmps) = true := by simp [Region.wanted, hgd]
  rw [if_pos hw]
  exact wp_append_g encX_len encX_one (by omega) 36 Tryd.underlying36 (.string ⟨#[]⟩) 16 Tryd.infoX rfl w s x ho base v l m A cap hs hx hown hr hA hml hb hbase h
theorem part76k {k : Int} {j : Nat} (h : j < (partL k).length) (e : ((partL k)[j].toNat : Int) = 76) : k = 3 :=
  part76 (by
    have : (partL k)[j] = 76 := UInt8.toNat_inj.1 (by have : (76 : UInt8).toNat = 76 := rfl; omega)
    rw [← this]; exact List.getElem_mem h)

end Go.Proofs.YtoodkgmpggabdaaDoor
