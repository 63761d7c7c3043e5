/-
  query.printLine: the line of a step.
-/
import Derived.Test.YtahpkmdifkaldaaDoorTk
import Derived.Test.YtahpkmdifkaldaaDoorQPart
import Derived.Deep.RegionHeld3
import Derived.Deep.Cut
namespace Go.Proofs.YtahpkmdifkaldaaDoor
open Go.RowKit Go.Sort

/-- A step's line. -/
def lineT (s : Stp) : List UInt8 := Lib.join (wordL s.k :: (partL s.k).map (fun p => partT s p.toNat)) [32]
theorem partL_len (k : Int) : (partL k).length ≤ 4 := by
  unfold partL
  repeat' split
  all_goals simp
theorem wordL_len (k : Int) : (wordL k).length ≤ 8 := by
  unfold wordL
  repeat' split
  all_goals simp
theorem partT_len {s : Stp} (h : Fine s) (p : Int) : (partT s p).length ≤ 1000 := by
  unfold partT
  by_cases h1 : p = 79
  · rw [if_pos h1]
    unfold signL
    repeat' split
    all_goals simp
  · rw [if_neg h1]
    by_cases h2 : p = 76
    · rw [if_pos h2]
      have h3 := join_le [44] 21 (s.l.map Lib.itoa) (fun x hx => by
        obtain ⟨n, hn, rfl⟩ := List.mem_map.1 hx
        exact itoa_len (h.l.2 n hn))
      have h4 := h.l.1
      unfold listL
      simp at h3
      omega
    · rw [if_neg h2]
      refine Nat.le_trans (itoa_len ?_) (by omega)
      repeat' split
      all_goals first | exact h.a | exact h.b | exact h.c | exact h.v
theorem part76 {k : Int} (h : (76 : UInt8) ∈ partL k) : k = 3 := by
  unfold partL at h
  by_cases e : k = 3
  · exact e
  · exfalso
    revert h
    repeat' split
    all_goals first | decide | (exfalso; omega) | skip

theorem step_append_x (w : World) {ops : Array Oper} {o : Oper} {a : Act} {K : Act → World → Prop} {Q : Exit → Act → World → Prop} {E : Prop} (hgd : o.guard = none) (s x : Operand)
    (ho : o.op = .call { callee := .builtin .append, args := #[s, x], argTypes := #[56, 56] })
    (base : Nat) (v : Value) (l m : List (List UInt8)) (A : Option Addr) (cap : Nat) (hs : a.eval s = v) (hx : a.eval x = .slice A m.length cap) (hown : OwnX w base v l) (hr : RowX w A m) (hA : A = none → cap = 0)
    (hml : l.length + m.length ≤ maxLen) (hb : (l.length + m.length) * 16 ≤ 140737488355328) (hbase : base ≤ w.heap.size)
    (h : ∀ v' w', OwnX w' base v' (l ++ m) → w.grownBy w' v.ownBlock → K (a.put o.dst v') w') :
    if Region.wanted o (yielded ops a.tmps) = true then Oper.wp Tryd.prog o a w K Q else E := by
  have hw : Region.wanted o (yielded ops a.tmps) = true := by simp [Region.wanted, hgd]
  rw [if_pos hw]
  exact wp_append_g encX_len encX_one (by omega) 56 Tryd.underlying56 (.string ⟨#[]⟩) 16 Tryd.infoX rfl w s x ho base v l m A cap hs hx hown hr hA hml hb hbase h
theorem part76k {k : Int} {j : Nat} (h : j < (partL k).length) (e : ((partL k)[j].toNat : Int) = 76) : k = 3 :=
  part76 (by
    have : (partL k)[j] = 76 := UInt8.toNat_inj.1 (by have : (76 : UInt8).toNat = 76 := rfl; omega)
    rw [← this]; exact List.getElem_mem h)

set_option maxRecDepth 100000 in
set_option maxHeartbeats 2000000 in
theorem printLine_any (s : Stp) (w : World) (hf : Fine s) (hr : RowI w s.p s.l) (hl : s.k = 3 → s.l ≠ []) (ht : Tens w) :
    Calls Tryd.prog 9 #[.agg #[.int .i64 s.k, .int .i64 s.a, .int .i64 s.b, .int .i64 s.c, .int .i64 s.o, .int .i64 s.v, .slice s.p s.l.length s.n]] w fun e w' => e = .returned (.string ⟨(lineT s).toArray⟩) ∧ Below w.heap.size w w' := by
  have hg0 : Gr w (w.alloc (.cells #[.int .i64 s.k, .int .i64 s.a, .int .i64 s.b, .int .i64 s.c, .int .i64 s.o, .int .i64 s.v, .slice s.p s.l.length s.n] 28)) := (Gr.refl w).alloc _
  have hfo := formOf_any s.k (w.alloc (.cells #[.int .i64 s.k, .int .i64 s.a, .int .i64 s.b, .int .i64 s.c, .int .i64 s.o, .int .i64 s.v, .slice s.p s.l.length s.n] 28))
  have hfoH : Hid _ := hfo
  have c0 : (w.alloc (.cells #[.int .i64 s.k, .int .i64 s.a, .int .i64 s.b, .int .i64 s.c, .int .i64 s.o, .int .i64 s.v, .slice s.p s.l.length s.n] 28)).cell? ⟨w.heap.size, 0, none⟩ = some (.int .i64 s.k) := box1 (Gr.refl _) rfl
  have hH : Hid (Fine s ∧ RowI w s.p s.l ∧ Tens w ∧ (s.k = 3 → s.l ≠ [])) := ⟨hf, hr, ht, hl⟩
  clear hfo hf hr ht hl
  go_enter Tryd.func9, Tryd.ntmps9
  go_wp2_with fail
  refine Calls.mono (show Calls _ _ _ _ _ from hfoH.out) ?_
  rintro e w1 ⟨rfl, hw1⟩
  subst w1
  clear hfoH c0
  have hst0 : Hid (OwnX ((w.alloc (.cells #[.int .i64 s.k, .int .i64 s.a, .int .i64 s.b, .int .i64 s.c, .int .i64 s.o, .int .i64 s.v, .slice s.p s.l.length s.n] 28)).alloc (.cells #[.string ⟨(wordL s.k).toArray⟩] 9)) (w.alloc (.cells #[.int .i64 s.k, .int .i64 s.a, .int .i64 s.b, .int .i64 s.c, .int .i64 s.o, .int .i64 s.v, .slice s.p s.l.length s.n] 28)).heap.size (.slice (some ⟨w.heap.size + 1, 0, none⟩) 1 1) [wordL s.k]) := by
    have h := World.ownsRow_lit (base := (w.alloc (.cells #[.int .i64 s.k, .int .i64 s.a, .int .i64 s.b, .int .i64 s.c, .int .i64 s.o, .int .i64 s.v, .slice s.p s.l.length s.n] 28)).heap.size) (e := 9) (size := 1) (w.alloc (.cells #[.int .i64 s.k, .int .i64 s.a, .int .i64 s.b, .int .i64 s.c, .int .i64 s.o, .int .i64 s.v, .slice s.p s.l.length s.n] 28)) #[.string ⟨(wordL s.k).toArray⟩] 1 (Nat.le_refl _) (by unfold maxLen; omega) rfl
    have e : (w.alloc (.cells #[.int .i64 s.k, .int .i64 s.a, .int .i64 s.b, .int .i64 s.c, .int .i64 s.o, .int .i64 s.v, .slice s.p s.l.length s.n] 28)).heap.size = w.heap.size + 1 := by simp
    rw [e] at h
    show OwnX _ _ _ _
    rw [e]
    exact h
  go_wp2
  go_loopw [5, 17] (fun v i wr => ∃ j : Nat, j ≤ (partL s.k).length ∧ i = .int .i64 j ∧ Hid (OwnX wr (w.alloc (.cells #[.int .i64 s.k, .int .i64 s.a, .int .i64 s.b, .int .i64 s.c, .int .i64 s.o, .int .i64 s.v, .slice s.p s.l.length s.n] 28)).heap.size v (wordL s.k :: ((partL s.k).take j).map (fun p => partT s p.toNat)) ∧ Below (w.alloc (.cells #[.int .i64 s.k, .int .i64 s.a, .int .i64 s.b, .int .i64 s.c, .int .i64 s.o, .int .i64 s.v, .slice s.p s.l.length s.n] 28)).heap.size (w.alloc (.cells #[.int .i64 s.k, .int .i64 s.a, .int .i64 s.b, .int .i64 s.c, .int .i64 s.o, .int .i64 s.v, .slice s.p s.l.length s.n] 28)) wr)) (fun _ i _ => (partL s.k).length - (intOf i).toNat)
  case atStart => exact ⟨0, Nat.zero_le _, rfl, ⟨hst0.out, ((Gr.refl _).alloc _).below⟩⟩
  case round =>
    obtain ⟨j, hj, rfl, hov⟩ := hrel
    have hp4 := partL_len s.k
    by_cases hlt : j < (partL s.k).length
    · have hltz : (j : Int) < ((partL s.k).length : Int) := by omega
      obtain ⟨p, hp⟩ : ∃ p, (partL s.k)[j] = p := ⟨_, rfl⟩
      have hst : Hid (((partL s.k).take (j + 1)).map (fun p => partT s p.toNat) = ((partL s.k).take j).map (fun p => partT s p.toNat) ++ [partT s p.toNat]) := by show _ = _; rw [List.take_succ_eq_append_getElem hlt, hp]; simp
      have hKeep : Hid (∀ w' : World, Below (w.alloc (.cells #[.int .i64 s.k, .int .i64 s.a, .int .i64 s.b, .int .i64 s.c, .int .i64 s.o, .int .i64 s.v, .slice s.p s.l.length s.n] 28)).heap.size (w.alloc (.cells #[.int .i64 s.k, .int .i64 s.a, .int .i64 s.b, .int .i64 s.c, .int .i64 s.o, .int .i64 s.v, .slice s.p s.l.length s.n] 28)) w' → (fun w' => w'.cell? ⟨w.heap.size, 0, none⟩ = some (.int .i64 s.k) ∧ w'.cell? ⟨w.heap.size, 1, none⟩ = some (.int .i64 s.a) ∧ w'.cell? ⟨w.heap.size, 2, none⟩ = some (.int .i64 s.b) ∧ w'.cell? ⟨w.heap.size, 3, none⟩ = some (.int .i64 s.c) ∧ w'.cell? ⟨w.heap.size, 4, none⟩ = some (.int .i64 s.o) ∧ w'.cell? ⟨w.heap.size, 5, none⟩ = some (.int .i64 s.v) ∧ w'.cell? ⟨w.heap.size, 6, none⟩ = some (.slice s.p s.l.length s.n)) w') := fun w' hb => ⟨(hb.cell (p := ⟨w.heap.size, 0, none⟩) (by simp)).trans (box1 (Gr.refl _) rfl), (hb.cell (p := ⟨w.heap.size, 1, none⟩) (by simp)).trans (box1 (Gr.refl _) rfl), (hb.cell (p := ⟨w.heap.size, 2, none⟩) (by simp)).trans (box1 (Gr.refl _) rfl), (hb.cell (p := ⟨w.heap.size, 3, none⟩) (by simp)).trans (box1 (Gr.refl _) rfl), (hb.cell (p := ⟨w.heap.size, 4, none⟩) (by simp)).trans (box1 (Gr.refl _) rfl), (hb.cell (p := ⟨w.heap.size, 5, none⟩) (by simp)).trans (box1 (Gr.refl _) rfl), (hb.cell (p := ⟨w.heap.size, 6, none⟩) (by simp)).trans (box1 (Gr.refl _) rfl)⟩
      have hbd : Below (w.alloc (.cells #[.int .i64 s.k, .int .i64 s.a, .int .i64 s.b, .int .i64 s.c, .int .i64 s.o, .int .i64 s.v, .slice s.p s.l.length s.n] 28)).heap.size (w.alloc (.cells #[.int .i64 s.k, .int .i64 s.a, .int .i64 s.b, .int .i64 s.c, .int .i64 s.o, .int .i64 s.v, .slice s.p s.l.length s.n] 28)) wr.drew := hov.out.2.drew
      have hpre : Hid (RowI wr.drew s.p s.l ∧ Tens wr.drew) := ⟨(hH.out.2.1.gr hg0).below hbd, (hH.out.2.2.1.gr hg0).below hbd⟩
      have hl76 : Hid (∀ e : ((partL s.k)[j].toNat : Int) = 76, s.l ≠ []) := fun e => hH.out.2.2.2 (part76k hlt e)
      obtain ⟨M, hM⟩ : ∃ M, wordL s.k :: ((partL s.k).take j).map (fun p => partT s p.toNat) = M := ⟨_, rfl⟩
      have hMl : Hid (M.length ≤ 5) := by
        show _ ≤ _
        have := partL_len s.k
        rw [← hM]; simp; omega
      have hnx : Hid (wordL s.k :: ((partL s.k).take (j + 1)).map (fun p => partT s p.toNat) = M ++ [partT s p.toNat]) := by show _ = _; rw [hst.out, ← hM]; rfl
      rw [hM] at hov
      have hpH : Hid ((partL s.k)[j] = p) := hp
      clear hM hst hp
      go_upto_region 6 with fail
      refine wp_region_noPanic ?_
      refine wp_region_held_drew (S := fun w' => w'.cell? ⟨w.heap.size, 0, none⟩ = some (.int .i64 s.k) ∧ w'.cell? ⟨w.heap.size, 1, none⟩ = some (.int .i64 s.a) ∧ w'.cell? ⟨w.heap.size, 2, none⟩ = some (.int .i64 s.b) ∧ w'.cell? ⟨w.heap.size, 3, none⟩ = some (.int .i64 s.c) ∧ w'.cell? ⟨w.heap.size, 4, none⟩ = some (.int .i64 s.o) ∧ w'.cell? ⟨w.heap.size, 5, none⟩ = some (.int .i64 s.v) ∧ w'.cell? ⟨w.heap.size, 6, none⟩ = some (.slice s.p s.l.length s.n)) (by kernel_rfl) (hKeep.out _ hbd) (fun hHeld => ?_)
      refine tks [0, 1, 2, 3, 4] (by assumption) ?_
      iterate 5 (refine tk (v := ?_) (by rfl) (by kernel_rfl) ?_ ?_; rotate_left; · (refine Or.inl ⟨by rfl, ?_⟩; intro w hSw; (try dsimp only at hSw); go_simp <;> with_reducible rfl); try simp only [Act.put, List.setIfInBounds_toArray, List.set_cons_zero, List.set_cons_succ])
      refine tk0 ?_
      refine wpAnyH_ready (rs := [5]) (by kernel_rfl) (by simp) ?_
      refine AllReadyH.cons (o := ?oi6) ?hop6 (fun K hK => ?step6) ?more6
      case hop6 => (simp only [List.getElem?_toArray, List.getElem?_cons_zero, List.getElem?_cons_succ]; rfl)
      case more6 => exact AllReadyH.nil
      go_simp
      (go_at_call 20; (refine Calls.mono (printPart_any s _ _ hH.out.1 hpre.out.1 hl76.out hpre.out.2) ?_); rintro e y1 ⟨rfl, hbl⟩; generalize hT : partT s _ = T; have hTH : Hid (partT s ((partL s.k)[j].toNat : Int) = T) := hT; have hb1 : Hid (Below (w.alloc (.cells #[.int .i64 s.k, .int .i64 s.a, .int .i64 s.b, .int .i64 s.c, .int .i64 s.o, .int .i64 s.v, .slice s.p s.l.length s.n] 28)).heap.size (w.alloc (.cells #[.int .i64 s.k, .int .i64 s.a, .int .i64 s.b, .int .i64 s.c, .int .i64 s.o, .int .i64 s.v, .slice s.p s.l.length s.n] 28)) y1) := hbd.trans (hbl.mono hbd.size); have hb2 : Hid (Below (w.alloc (.cells #[.int .i64 s.k, .int .i64 s.a, .int .i64 s.b, .int .i64 s.c, .int .i64 s.o, .int .i64 s.v, .slice s.p s.l.length s.n] 28)).heap.size (w.alloc (.cells #[.int .i64 s.k, .int .i64 s.a, .int .i64 s.b, .int .i64 s.c, .int .i64 s.o, .int .i64 s.v, .slice s.p s.l.length s.n] 28)) (y1.alloc (.cells #[.string ⟨T.toArray⟩] 9))) := hb1.out.alloc hb1.out.size _; have hoX : Hid (OwnX (y1.alloc (.cells #[.string ⟨T.toArray⟩] 9)) (w.alloc (.cells #[.int .i64 s.k, .int .i64 s.a, .int .i64 s.b, .int .i64 s.c, .int .i64 s.o, .int .i64 s.v, .slice s.p s.l.length s.n] 28)).heap.size u5 M ∧ RowX (y1.alloc (.cells #[.string ⟨T.toArray⟩] 9)) (some ⟨y1.heap.size, 0, none⟩) [T] ∧ M.length + 1 ≤ maxLen ∧ (M.length + 1) * 16 ≤ 140737488355328) := ⟨hov.out.1.below (((Below.refl _ _).drew.trans (hbl.mono (Nat.le_refl _))).trans (((Gr.refl y1).alloc _).below.mono hbl.size)), rowNewX rfl T 9, (by have := hMl.out; unfold maxLen; omega), (by have := hMl.out; omega)⟩; clear hbl hT)
      first | (go_wp2_with fail) | skip
      refine hK.out _ _ ?_ (fun hHeld => ?_)
      · (try dsimp only); (first | with_reducible exact hKeep.out _ hbd | with_reducible exact hKeep.out _ hb1.out | with_reducible exact hKeep.out _ hb2.out | with_reducible exact hKeep.out _ hb3.out)
      clear hK K
      try simp only [Act.put, List.setIfInBounds_toArray, List.set_cons_zero, List.set_cons_succ]
      refine wpAnyH_ready (rs := [6]) (by kernel_rfl) (by simp) ?_
      refine AllReadyH.cons (o := ?oi7) ?hop7 (fun K hK => ?step7) ?more7
      case hop7 => (simp only [List.getElem?_toArray, List.getElem?_cons_zero, List.getElem?_cons_succ]; rfl)
      case more7 => exact AllReadyH.nil
      go_simp
      refine hK.out _ _ ?_ (fun hHeld => ?_)
      · (try dsimp only); (first | with_reducible exact hKeep.out _ hbd | with_reducible exact hKeep.out _ hb1.out | with_reducible exact hKeep.out _ hb2.out | with_reducible exact hKeep.out _ hb3.out)
      clear hK K
      try simp only [Act.put, List.setIfInBounds_toArray, List.set_cons_zero, List.set_cons_succ]
      refine wpAnyH_ready (rs := [7]) (by kernel_rfl) (by simp) ?_
      refine AllReadyH.cons (o := ?oi8) ?hop8 (fun K hK => ?step8) ?more8
      case hop8 => (simp only [List.getElem?_toArray, List.getElem?_cons_zero, List.getElem?_cons_succ]; rfl)
      case more8 => exact AllReadyH.nil
      (refine step_append_x _ rfl (.tmp 20) (.tmp 26) rfl (w.alloc (.cells #[.int .i64 s.k, .int .i64 s.a, .int .i64 s.b, .int .i64 s.c, .int .i64 s.o, .int .i64 s.v, .slice s.p s.l.length s.n] 28)).heap.size u5 M [T] (some ⟨y1.heap.size, 0, none⟩) 1 rfl rfl hoX.out.1 hoX.out.2.1 (fun h => by cases h) hoX.out.2.2.1 hoX.out.2.2.2 hb2.out.size ?_; intro v2 w3 hown3 hgb3; have hb3 : Hid (Below (w.alloc (.cells #[.int .i64 s.k, .int .i64 s.a, .int .i64 s.b, .int .i64 s.c, .int .i64 s.o, .int .i64 s.v, .slice s.p s.l.length s.n] 28)).heap.size (w.alloc (.cells #[.int .i64 s.k, .int .i64 s.a, .int .i64 s.b, .int .i64 s.c, .int .i64 s.o, .int .i64 s.v, .slice s.p s.l.length s.n] 28)) w3) := hb2.out.trans (OwnG.grown_below hoX.out.1 hgb3 hb2.out.size); have hownF : Hid (OwnX w3 (w.alloc (.cells #[.int .i64 s.k, .int .i64 s.a, .int .i64 s.b, .int .i64 s.c, .int .i64 s.o, .int .i64 s.v, .slice s.p s.l.length s.n] 28)).heap.size v2 (M ++ [T]) ∧ Below (w.alloc (.cells #[.int .i64 s.k, .int .i64 s.a, .int .i64 s.b, .int .i64 s.c, .int .i64 s.o, .int .i64 s.v, .slice s.p s.l.length s.n] 28)).heap.size (w.alloc (.cells #[.int .i64 s.k, .int .i64 s.a, .int .i64 s.b, .int .i64 s.c, .int .i64 s.o, .int .i64 s.v, .slice s.p s.l.length s.n] 28)) w3) := ⟨hown3, hb3.out⟩; clear hown3 hgb3)
      refine hK.out _ _ ?_ (fun hHeld => ?_)
      · (try dsimp only); (first | with_reducible exact hKeep.out _ hbd | with_reducible exact hKeep.out _ hb1.out | with_reducible exact hKeep.out _ hb2.out | with_reducible exact hKeep.out _ hb3.out)
      clear hK K
      try simp only [Act.put, List.setIfInBounds_toArray, List.set_cons_zero, List.set_cons_succ]
      refine tks [8] (by assumption) ?_
      iterate 1 (refine tk (v := ?_) (by rfl) (by kernel_rfl) ?_ ?_; rotate_left; · (refine Or.inl ⟨by rfl, ?_⟩; intro w hSw; (try dsimp only at hSw); go_simp <;> with_reducible rfl); try simp only [Act.put, List.setIfInBounds_toArray, List.set_cons_zero, List.set_cons_succ])
      refine tk0 ?_
      refine wpAnyH_done (by kernel_rfl) ?_ _
      refine NoPanic.normal ?_
      go_wp2
      go_roundw
      case rel => exact ⟨j + 1, by omega, by go_num, by rw [hnx.out, ← hpH.out, hTH.out]; exact hownF⟩
      case measure => simp [intOf]; omega
    · have hltz : ¬ (j : Int) < ((partL s.k).length : Int) := by omega
      have hke : (partL s.k).take j = partL s.k := List.take_of_length_le (by omega)
      rw [hke] at hov
      obtain ⟨C, c, rfl, hC, hrow, hcap, -, -⟩ := OwnG.full encX_len hov.out.1
      obtain ⟨M, hM⟩ : ∃ M, wordL s.k :: (partL s.k).map (fun p => partT s p.toNat) = M := ⟨_, rfl⟩
      rw [hM] at hrow hcap hov ⊢
      have hlt8 : Hid (lineT s = Lib.join M [32]) := by show _ = _; unfold lineT; rw [hM]
      have hM5 : M.length ≤ 5 := by rw [← hM]; simp; omega
      have hM0 : M ≠ [] := by rw [← hM]; simp
      have hMb : ∀ x ∈ M, x.length ≤ 1000 := by
        intro x hx
        rw [← hM] at hx
        rcases List.mem_cons.1 hx with e | e
        · rw [e]; exact Nat.le_trans (wordL_len s.k) (by omega)
        · obtain ⟨p, _, rfl⟩ := List.mem_map.1 e
          exact partT_len hH.out.1 _
      have hjo := sjoin_any M [32] C c wr hM0 hrow hcap (by omega) (by
        have h1 := join_le [32] 1000 M hMb
        have h2 : M.length * (1000 + [(32 : UInt8)].length) ≤ 5 * 1001 := Nat.mul_le_mul hM5 (by simp)
        omega)
      have hjoH : Hid _ := hjo
      have hbF : Hid (Below w.heap.size w wr) := hg0.below.trans (hov.out.2.mono hg0.size)
      clear hjo hrow hC hcap hov hke hM hM5 hM0 hMb
      go_wp2_with fail
      refine Calls.mono (show Calls _ _ _ _ _ from hjoH.out) ?_
      rintro e w1 ⟨rfl, hb1⟩
      have hbG : Hid (Below w.heap.size w w1) := hbF.out.trans (hb1.mono hbF.out.size)
      clear hjoH hb1 hbF
      go_wp2
      go_ret
      exact ⟨by rw [hlt8.out]; rfl, hbG.out⟩

end Go.Proofs.YtahpkmdifkaldaaDoor
