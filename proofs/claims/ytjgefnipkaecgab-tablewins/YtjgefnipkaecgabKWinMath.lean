/-
  Proved: what is known of two tables that were put to by two nodes: merged they keep both values; one of them with its row deleted, merged with the other, keeps the other's value. No condition beyond those named.
-/
import Derived.Test.YtjgefnipkaecgabKEdMath
namespace Go.Proofs.Ytjgefnipkaecgab

theorem merge_room {a b : Tab} (ha : errT a = 0) (hb : errT b = 0) (hcl : clashB a b = false) (h0 : mergeE a b ≠ 0) : mergeE a b = 2 := by
  have hj : joinE a.c b.c = 0 ∨ joinE a.c b.c = 2 := by
    unfold joinE errB
    rw [(errT_parts ha).1, (errT_parts hb).1]
    simp only [if_true]
    by_cases k : 400 < (joinF a.c b.c).l.length
    · rw [if_pos k]; exact Or.inr rfl
    · rw [if_neg k]; exact Or.inl rfl
  unfold mergeE at h0 ⊢
  rw [ha, hb, hcl] at h0 ⊢
  rcases hj with hj | hj
  · rw [hj] at h0 ⊢
    by_cases k : 400 < (mrg a b).length
    · simp [k]
    · simp [k] at h0
  · rw [hj]; simp
theorem put_all {t : Tab} {n key col v : Int} (h : putE t n key col v = 0) (h0 : mergeE t (putT t n key col v) = 0) : ∃ N : Int × Int, errT t = 0 ∧ N.1 = n ∧ hasB t.c N = false ∧ (∀ y, y ∈ (mergeT t (putT t n key col v)).e ↔ (y ∈ t.e ∧ fitP key col y = false) ∨ y = (N, key, col, v)) ∧ ∀ x, hasB (mergeT t (putT t n key col v)).c x = true ↔ hasB t.c x = true ∨ x = N := by
  obtain ⟨N, hT, hN, hNt, ht, hp, _, hhas⟩ := put_ok h
  obtain ⟨K, _, _, hc⟩ := put_cells h h0
  obtain ⟨_, _, hcl, hj, _⟩ := mergeE_parts h0
  have hin : ((N, key, col, v) : Cel) ∈ (mergeT t (putT t n key col v)).e := by
    rw [mergeT_ok h0]
    show _ ∈ mrg t _
    rw [mem_mrg hcl]
    exact Or.inr (Or.inr ⟨by rw [hT]; simp, hNt⟩)
  obtain rfl : K = N := by
    rcases (hc _).1 hin with k | k
    · have := errT_has ht k.1
      rw [show ((N, key, col, v) : Cel).1 = N from rfl, hNt] at this; cases this
    · exact (congrArg (fun c : Cel => c.1) k).symm
  refine ⟨K, ht, hN, hNt, hc, fun x => ?_⟩
  rw [mergeT_ok h0]
  show hasB (joinC t.c _) x = true ↔ _
  rw [(join_can hj).2.2.2, hhas]
  constructor
  · rintro (k | k | k)
    · exact Or.inl k
    · obtain ⟨y, hy, rfl⟩ := List.mem_map.1 k
      exact Or.inl (errT_has ht (List.mem_filter.1 hy).1)
    · exact Or.inr k
  · rintro (k | k)
    · exact Or.inl k
    · exact Or.inr (Or.inr k)

/-- a and b: t, put to by two nodes. -/
structure Both2 (t a b : Tab) (key col v w : Int) (N M : Int × Int) : Prop where
  et : errT t = 0
  ea : errT a = 0
  eb : errT b = 0
  ne : N ≠ M
  nt : hasB t.c N = false
  mt : hasB t.c M = false
  ca : ∀ y, y ∈ a.e ↔ (y ∈ t.e ∧ fitP key col y = false) ∨ y = (N, key, col, v)
  cb : ∀ y, y ∈ b.e ↔ (y ∈ t.e ∧ fitP key col y = false) ∨ y = (M, key, col, w)
  xa : ∀ x, hasB a.c x = true ↔ hasB t.c x = true ∨ x = N
  xb : ∀ x, hasB b.c x = true ↔ hasB t.c x = true ∨ x = M
theorem both_of {t a b : Tab} {key col v w : Int} (h1 : putE t 2 key col v = 0) (h2 : putE t 3 key col w = 0) (m1 : mergeE t (putT t 2 key col v) = 0) (m2 : mergeE t (putT t 3 key col w) = 0) (e1 : mergeT t (putT t 2 key col v) = a) (e2 : mergeT t (putT t 3 key col w) = b) : ∃ N M, Both2 t a b key col v w N M := by
  obtain ⟨N, ht, hN, nt, ca, xa⟩ := put_all h1 m1
  obtain ⟨M, _, hM, mt, cb, xb⟩ := put_all h2 m2
  have ea := errT_merge m1
  have eb := errT_merge m2
  rw [e1] at ca xa ea
  rw [e2] at cb xb eb
  exact ⟨N, M, ht, ea, eb, fun k => (by rw [k, hM] at hN; cases hN), nt, mt, ca, cb, xa, xb⟩
variable {t a b : Tab} {key col v w : Int} {N M : Int × Int}
theorem Both2.nb (h : Both2 t a b key col v w N M) : hasB b.c N = false := by
  cases k : hasB b.c N
  · rfl
  · rcases (h.xb N).1 k with m | m
    · rw [h.nt] at m; cases m
    · exact absurd m h.ne
theorem Both2.ma (h : Both2 t a b key col v w N M) : hasB a.c M = false := by
  cases k : hasB a.c M
  · rfl
  · rcases (h.xa M).1 k with m | m
    · rw [h.mt] at m; cases m
    · exact absurd m.symm h.ne
theorem Both2.clash (h : Both2 t a b key col v w N M) : clashB a b = false := noclash.2 fun x hx y hy e => by
  rcases (h.ca x).1 hx with k | k <;> rcases (h.cb y).1 hy with m | m
  · exact uniqT h.et x k.1 y m.1 e
  · have := errT_has h.et k.1
    rw [← e, m, show ((M, key, col, w) : Cel).1 = M from rfl, h.mt] at this; cases this
  · have := errT_has h.et m.1
    rw [e, k, show ((N, key, col, v) : Cel).1 = N from rfl, h.nt] at this; cases this
  · rw [k, m] at e
    exact absurd (show M = N from e).symm h.ne
theorem Both2.fita (h : Both2 t a b key col v w N M) {y : Cel} (hy : y ∈ a.e) (hf : fitP key col y = true) : y = (N, key, col, v) := by
  rcases (h.ca y).1 hy with k | k
  · rw [hf] at k; cases k.2
  · exact k
theorem Both2.fitb (h : Both2 t a b key col v w N M) {y : Cel} (hy : y ∈ b.e) (hf : fitP key col y = true) : y = (M, key, col, w) := by
  rcases (h.cb y).1 hy with k | k
  · rw [hf] at k; cases k.2
  · exact k
theorem Both2.vals (h : Both2 t a b key col v w N M) (h0 : mergeE a b = 0) (x : Int) : x ∈ valsOf key col (mergeT a b).e ↔ x = v ∨ x = w := by
  rw [mem_vals, mergeT_ok h0]
  show (∃ y ∈ mrg a b, _) ↔ _
  constructor
  · rintro ⟨y, hy, hf, e⟩
    rcases mem_cases h.clash hy with k | k
    · rw [h.fita k hf] at e; exact Or.inl e.symm
    · rw [h.fitb k hf] at e; exact Or.inr e.symm
  · rintro (e | e)
    · exact ⟨(N, key, col, v), (mem_mrg h.clash).2 (Or.inr (Or.inl ⟨(h.ca _).2 (Or.inr rfl), h.nb⟩)), by simp [fitP], e.symm⟩
    · exact ⟨(M, key, col, w), (mem_mrg h.clash).2 (Or.inr (Or.inr ⟨(h.cb _).2 (Or.inr rfl), h.ma⟩)), by simp [fitP], e.symm⟩
theorem Both2.one (h : Both2 t a b key col v w N M) (h0 : mergeE a b = 0) (e : v = w) : onceL (valsOf key col (mergeT a b).e) = [v] :=
  once_one fun x => by rw [h.vals h0, ← e]; simp
theorem Both2.two (h : Both2 t a b key col v w N M) (h0 : mergeE a b = 0) (e : v ≠ w) : onceL (valsOf key col (mergeT a b).e) = [min v w, max v w] :=
  rise_ext (once_good _).1 (by simp; omega) fun x => by
    rw [(once_good _).2, h.vals h0]
    simp only [List.mem_cons, List.not_mem_nil, or_false]
    omega
theorem Both2.del (h : Both2 t a b key col v w N M) : delE b key = 0 := by
  by_cases k : delE b key = 0
  · exact k
  · exact absurd (List.mem_map.2 ⟨(M, key, col, w), (h.cb _).2 (Or.inr rfl), rfl⟩) (del_no h.eb k)
theorem del_sub {t : Tab} {key : Int} (h : delE t key = 0) (x : Int × Int) (hx : hasB (delC t key) x = true) : hasB t.c x = true := by
  have ht := (del_cells h).1
  have hC : delC t key = makeC (dotsOf (fitD key) t.e) := by unfold delC; rw [if_pos h]
  have hd := dotsOf_rightK ht (fitD key)
  have hm := make_has hd.1 hd.2
  rw [hC, hm.2] at hx
  obtain ⟨y, hy, rfl⟩ := List.mem_map.1 hx
  exact errT_has ht (List.mem_filter.1 hy).1
/-- b with its row deleted, and a. -/
theorem Both2.gone (h : Both2 t a b key col v w N M) {g : Tab} (hm : mergeE b ⟨delC b key, []⟩ = 0) (hg : mergeT b ⟨delC b key, []⟩ = g) : errT g = 0 ∧ clashB g a = false ∧ hasB g.c N = false ∧ ∀ y ∈ g.e, y.2.1 ≠ key := by
  obtain ⟨_, _, _, hc⟩ := del_cells h.del
  have eg := errT_merge hm
  obtain ⟨_, _, _, hj, _⟩ := mergeE_parts hm
  have hx : hasB (mergeT b ⟨delC b key, []⟩).c N = false := by
    rw [mergeT_ok hm]
    show hasB (joinC b.c (delC b key)) N = false
    rw [join_has hj, h.nb]
    cases k : hasB (delC b key) N
    · rfl
    · have := del_sub h.del N k
      rw [h.nb] at this; cases this
  rw [hg] at hc eg hx
  refine ⟨eg, noclash.2 fun x hx y hy e => ?_, hx, fun y hy => ((hc y).1 hy).2⟩
  have hx' := (hc x).1 hx
  have hxt : x ∈ t.e := by
    rcases (h.cb x).1 hx'.1 with k | k
    · exact k.1
    · exact absurd (by rw [k]) hx'.2
  rcases (h.ca y).1 hy with k | k
  · exact uniqT h.et x hxt y k.1 e
  · have := errT_has h.et hxt
    rw [← e, k, show ((N, key, col, v) : Cel).1 = N from rfl, h.nt] at this; cases this
theorem Both2.last (h : Both2 t a b key col v w N M) {g : Tab} (hm : mergeE b ⟨delC b key, []⟩ = 0) (hg : mergeT b ⟨delC b key, []⟩ = g) (h0 : mergeE g a = 0) : onceL (valsOf key col (mergeT g a).e) = [v] := by
  obtain ⟨_, hcl, hN, hk⟩ := h.gone hm hg
  refine once_one fun x => ?_
  rw [mem_vals, mergeT_ok h0]
  show (∃ y ∈ mrg g a, _) ↔ _
  constructor
  · rintro ⟨y, hy, hf, e⟩
    rcases mem_cases hcl hy with k | k
    · simp [fitP] at hf
      exact absurd hf.1 (hk y k)
    · rw [h.fita k hf] at e; exact e.symm
  · intro e
    exact ⟨(N, key, col, v), (mem_mrg hcl).2 (Or.inr (Or.inr ⟨(h.ca _).2 (Or.inr rfl), hN⟩)), by simp [fitP], e.symm⟩

end Go.Proofs.Ytjgefnipkaecgab
