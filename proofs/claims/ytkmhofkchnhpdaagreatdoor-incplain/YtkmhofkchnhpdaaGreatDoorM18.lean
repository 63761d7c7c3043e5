/-
  What a query tells, on plain lists: each step's set; where, pick, union and minus of two sets together are those of both, together.
  query.Check, query.Width; viewref.In.
-/
import Derived.Test.YtkmhofkchnhpdaaGreatDoorM10
import Derived.Test.YtkmhofkchnhpdaaGreatDoorM17
namespace Go.Proofs.YtkmhofkchnhpdaaGreatDoor

/-- How often rows of a sort are there in all. -/
def wtP (p : List Int → Bool) : List Zit → Int
  | [] => 0
  | x :: t => (if p x.1 = true then x.2 else 0) + wtP p t
theorem wtP_append (p : List Int → Bool) (a b : List Zit) : wtP p (a ++ b) = wtP p a + wtP p b := by
  induction a with
  | nil => simp [wtP]
  | cons x a ih => simp only [List.cons_append, wtP, ih]; omega
theorem insZ_wtP {x : Zit} (p : List Int → Bool) : ∀ {S : List Zit}, wtP p (insZ x S) = (if p x.1 = true then x.2 else 0) + wtP p S
  | [] => by
    unfold insZ
    by_cases e : x.2 = 0
    · rw [if_pos e, e]; simp [wtP]
    · rw [if_neg e]; simp only [wtP]
  | y :: t => by
    unfold insZ
    by_cases h1 : cmpL x.1 y.1 < 0
    · rw [if_pos h1]
      by_cases e : x.2 = 0
      · rw [if_pos e, e]; simp
      · rw [if_neg e]; simp only [wtP]
    · rw [if_neg h1]
      by_cases h2 : cmpL x.1 y.1 = 0
      · rw [if_pos h2]
        have e1 := cmpL_eq _ _ h2
        by_cases e : x.2 + y.2 = 0
        · rw [if_pos e]
          simp only [wtP]
          rw [e1]
          by_cases k : p y.1 = true
          · rw [if_pos k, if_pos k]; omega
          · rw [if_neg k, if_neg k]; omega
        · rw [if_neg e]
          simp only [wtP]
          rw [e1]
          by_cases k : p y.1 = true
          · rw [if_pos k, if_pos k, if_pos k]; omega
          · rw [if_neg k, if_neg k, if_neg k]; omega
      · rw [if_neg h2]
        simp only [wtP]
        rw [insZ_wtP p]; omega
theorem totL_wtP (p : List Int → Bool) : ∀ l : List Zit, wtP p (totL l) = wtP p l
  | [] => rfl
  | x :: t => by
    show wtP p (insZ x (totL t)) = _
    rw [insZ_wtP, totL_wtP p t]; rfl
theorem wtP_same {l m : List Zit} (h : ∀ r, wt l r = wt m r) (p : List Int → Bool) : wtP p l = wtP p m := by rw [← totL_wtP p l, ← totL_wtP p m, totL_same h]

/-- Is n, by op, to a value? -/
def toB (n op v : Int) : Bool := if op = 1 then decide (n < v) else if op = 2 then decide (n = v) else decide (v < n)
def atI (r : List Int) (c : Int) : Int := r.getD c.toNat 0
def whereL (l : List Zit) (c o v : Int) : List Zit := l.filter fun x => toB (atI x.1 c) o v
def pickR (cols : List Int) (r : List Int) : List Int := cols.map fun c => atI r c
def pickL (l : List Zit) (cols : List Int) : List Zit := l.map fun x => (pickR cols x.1, x.2)
def distL (l : List Zit) : List Zit := (l.filter fun x => decide (0 < x.2)).map fun x => (x.1, 1)
theorem where_wt (l : List Zit) (c o v : Int) (r : List Int) : wt (whereL l c o v) r = wtP (fun x => decide (x = r) && toB (atI x c) o v) l := by
  induction l with
  | nil => rfl
  | cons x l ih =>
    unfold whereL at ih ⊢
    by_cases h : toB (atI x.1 c) o v = true
    · rw [List.filter_cons_of_pos (by simpa using h)]
      simp only [wt, wtP, ih]
      by_cases k : x.1 = r
      · simp [k, k ▸ h]
      · simp [k]
    · rw [List.filter_cons_of_neg (by simpa using h)]
      simp only [wtP, ih]
      simp [h]
theorem pick_wt (l : List Zit) (cols : List Int) (r : List Int) : wt (pickL l cols) r = wtP (fun x => decide (pickR cols x = r)) l := by
  induction l with
  | nil => rfl
  | cons x l ih =>
    unfold pickL at ih ⊢
    simp only [List.map_cons, wt, wtP, ih]
    by_cases k : pickR cols x.1 = r
    · simp [k]
    · simp [k]
/-- The weights of one are those of two together. -/
def Bth (z x y : List Zit) : Prop := ∀ r, wt z r = wt x r + wt y r
theorem Bth.sum {z x y : List Zit} (h : Bth z x y) (p : List Int → Bool) : wtP p z = wtP p x + wtP p y := by
  rw [← wtP_append]
  exact wtP_same (fun r => by rw [h r, wt_append]) p
theorem both_where {z x y : List Zit} (h : Bth z x y) (c o v : Int) : Bth (whereL z c o v) (whereL x c o v) (whereL y c o v) := fun r => by rw [where_wt, where_wt, where_wt, h.sum]
theorem both_pick {z x y : List Zit} (h : Bth z x y) (cols : List Int) : Bth (pickL z cols) (pickL x cols) (pickL y cols) := fun r => by rw [pick_wt, pick_wt, pick_wt, h.sum]
theorem wt_norm {l : List Zit} (h : normE l = 0) (r : List Int) : wt (normL l) r = wt l r := by rw [(norm_ok h).1, (totL_is l).same]
theorem wt_add {a b : List Zit} (h : addE a b = 0) (r : List Int) : wt (addL a b) r = wt a r + wt b r := by rw [add_is h, (totL_is _).same, wt_append]
theorem both_eq {z x y : List Zit} (hz : errZ z = 0) (h : Bth z x y) (he : addE x y = 0) : z = addL x y := by
  rw [add_is he]
  obtain ⟨_, h2, h3⟩ := (errZ_iff z).1 hz
  exact IsTot.eq ⟨h3, okZ_noz h2, fun r => by rw [h r, wt_append]⟩
theorem add_right {a b : List Zit} (h : addE a b = 0) : errZ a = 0 ∧ errZ b = 0 ∧ errZ (addL a b) = 0 := by
  unfold addE at h
  by_cases h1 : errZ a = 0
  · rw [if_pos h1] at h
    by_cases h2 : errZ b = 0
    · rw [if_pos h2] at h
      by_cases h3 : totE (a ++ b) = 0
      · rw [if_pos h3] at h
        by_cases h4 : 400 < (totL (a ++ b)).length
        · rw [if_pos h4] at h; cases h
        · refine ⟨h1, h2, ?_⟩
          have e : addL a b = totL (a ++ b) := by
            unfold addL addE
            rw [if_pos h1, if_pos h2, if_pos h3, if_neg h4, if_pos rfl]
          rw [e]
          have T := totL_is (a ++ b)
          refine (errZ_iff _).2 ⟨by omega, T.okZ (totE_zero h3) (fun x hx => ?_), T.rise⟩
          rcases List.mem_append.1 hx with k | k
          · exact (okZ_parts (((errZ_iff a).1 h1).2.1 x k)).1
          · exact (okZ_parts (((errZ_iff b).1 h2).2.1 x k)).1
      · rw [if_neg h3] at h; exact absurd h h3
    · rw [if_neg h2] at h; exact absurd h h2
  · rw [if_neg h1] at h; exact absurd h h1
end Go.Proofs.YtkmhofkchnhpdaaGreatDoor

namespace Go.Proofs.YtkmhofkchnhpdaaGreatDoor
open Go.RowKit Go.Sort

set_option maxHeartbeats 1000000 in
theorem checkQ_any (q : List Stp) (A : Option Addr) (ca : Nat) (w : World) (hl : q.length ≤ maxLen) (hq : Stps w A q) :
    Calls Tryz.prog 12 #[.slice A q.length ca] w fun e w' => e = .returned (.int .i64 (errQ q)) ∧ Below w.heap.size w w' := by
  have hwH : Hid _ := widths_any q A ca w hl hq
  clear hl hq
  go_enter Tryz.func12, Tryz.ntmps12
  go_wp2_with fail
  refine Calls.mono (show Calls _ _ _ _ _ from hwH.out) ?_
  rintro e w1 ⟨C, c, rfl, -, -, hb⟩
  clear hwH
  go_wp2
  go_ret
  exact ⟨rfl, hb⟩

/-- What Width answers. -/
def widI (q : List Stp) (i : Int) : Int := if errQ q = 0 then (if belowB i (widsL q).length = true then (widsL q).getD i.toNat 0 else 0) else 0
def widE (q : List Stp) (i : Int) : Int := if errQ q = 0 then (if belowB i (widsL q).length = true then 0 else 4) else errQ q
theorem widsF_len : ∀ (q : List Stp) (ah l : List Int), widsF q ah = some l → l.length = ah.length + q.length
  | [], ah, l, h => by
    have h' : some ah = some l := h
    injection h' with h'
    subst h'; simp
  | s :: t, ah, l, h => by
    have h' : (if widW s ah = 0 then none else widsF t (ah ++ [widW s ah])) = some l := h
    by_cases e : widW s ah = 0
    · rw [if_pos e] at h'; cases h'
    · rw [if_neg e] at h'
      have := widsF_len t _ l h'
      simp at this ⊢
      omega
theorem widsL_len {q : List Stp} (h : errQ q = 0) : (widsL q).length = q.length ∧ q.length ≤ 8 := by
  have h8 : q.length ≤ 8 ∧ (widsF q []).isSome = true := by
    unfold errQ at h
    by_cases h0 : q.length = 0
    · rw [if_pos h0] at h; cases h
    · rw [if_neg h0] at h
      by_cases h8 : 8 < q.length
      · rw [if_pos h8] at h; cases h
      · rw [if_neg h8] at h
        by_cases k : (widsF q []).isSome = true
        · exact ⟨by omega, k⟩
        · rw [if_neg k] at h; cases h
  refine ⟨?_, h8.1⟩
  unfold widsL
  rw [if_pos h]
  obtain ⟨l, hl⟩ := Option.isSome_iff_exists.1 h8.2
  rw [hl]
  have := widsF_len q [] l hl
  simpa using this



end Go.Proofs.YtkmhofkchnhpdaaGreatDoor
