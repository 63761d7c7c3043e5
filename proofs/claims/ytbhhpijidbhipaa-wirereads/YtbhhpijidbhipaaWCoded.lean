/-
  viewref.Coded: a packet as bytes (gens/mkcoded.py writes it).
-/
import Derived.Test.YtbhhpijidbhipaaWDec
import Derived.Test.YtbhhpijidbhipaaRTable
namespace Go.Proofs.Ytbhhpijidbhipaa
open Go.RowKit Go.Sort

theorem numL_le (n : Int) : (numL n).length ≤ 9 := (numL_short n).2
/-- The first numbers of a clock. -/
def clkB (t : Tab) : Nat → List UInt8
  | 0 => []
  | k + 1 => clkB t k ++ numL (clk t.c k)
theorem clkB_len (t : Tab) : ∀ k, (clkB t k).length ≤ 9 * k
  | 0 => Nat.le_refl _
  | k + 1 => by
    have h := clkB_len t k
    have h2 := numL_le (clk t.c k)
    rw [clkB, List.length_append]
    omega
theorem codD_len : ∀ (l : List (Int × Int)), (codD l).length ≤ 18 * l.length
  | [] => Nat.le_refl _
  | d :: l => by
    have h := codD_len l
    have h1 := numL_le d.1
    have h2 := numL_le d.2
    show (codDot d ++ codD l).length ≤ _
    unfold codDot
    simp only [List.length_append, List.length_cons]
    omega
theorem codE_len : ∀ (l : List Cel), (codE l).length ≤ 45 * l.length
  | [] => Nat.le_refl _
  | x :: l => by
    have h := codE_len l
    have h1 := numL_le x.1.1
    have h2 := numL_le x.1.2
    have h3 := numL_le x.2.1
    have h4 := numL_le x.2.2.1
    have h5 := numL_le x.2.2.2
    show (codCel x ++ codE l).length ≤ _
    unfold codCel
    simp only [List.length_append, List.length_cons]
    omega
theorem codD_take {l : List (Int × Int)} {k : Nat} (h : k < l.length) {x : Int × Int} (hx : l[k] = x) : codD (l.take (k + 1)) = codD (l.take k) ++ (numL x.1 ++ numL x.2) := by
  rw [List.take_succ_eq_append_getElem h, hx]
  simp [codD, codDot]
theorem codE_take {l : List Cel} {k : Nat} (h : k < l.length) {x : Cel} (hx : l[k] = x) : codE (l.take (k + 1)) = codE (l.take k) ++ (numL x.1.1 ++ numL x.1.2 ++ numL x.2.1 ++ numL x.2.2.1 ++ numL x.2.2.2) := by
  rw [List.take_succ_eq_append_getElem h, hx]
  simp [codE, codCel]
/-- What is told so far of a table: of its clock, its dots, its cells. -/
def told1 (p : List UInt8) (t : Tab) (k : Nat) : List UInt8 := p ++ clkB t k
def told2 (p : List UInt8) (t : Tab) (k : Nat) : List UInt8 := p ++ clkB t 4 ++ numL t.c.l.length ++ codD (t.c.l.take k)
def told3 (p : List UInt8) (t : Tab) (k : Nat) : List UInt8 := p ++ clkB t 4 ++ numL t.c.l.length ++ codD t.c.l ++ numL t.e.length ++ codE (t.e.take k)
theorem told1_len {p : List UInt8} {t : Tab} {k : Nat} (hp : p.length ≤ 30000) (hk : k ≤ 4) : (told1 p t k).length ≤ 30036 := by
  have := clkB_len t k
  unfold told1
  rw [List.length_append]
  omega
theorem told2_len {p : List UInt8} {t : Tab} {k : Nat} (hp : p.length ≤ 30000) (hl : t.c.l.length ≤ 400) : (told2 p t k).length ≤ 40000 := by
  have := clkB_len t 4
  have := numL_le t.c.l.length
  have h3 := codD_len (t.c.l.take k)
  rw [List.length_take] at h3
  unfold told2
  simp only [List.length_append]
  omega
theorem told3_len {p : List UInt8} {t : Tab} {k : Nat} (hp : p.length ≤ 30000) (hl : t.c.l.length ≤ 400) (he : t.e.length ≤ 400) : (told3 p t k).length ≤ 60000 := by
  have := clkB_len t 4
  have := numL_le t.c.l.length
  have := codD_len t.c.l
  have := numL_le t.e.length
  have h3 := codE_len (t.e.take k)
  rw [List.length_take] at h3
  unfold told3
  simp only [List.length_append]
  omega
theorem told3_end (p : List UInt8) (t : Tab) : told3 p t t.e.length = p ++ codT t := by
  unfold told3 codT
  rw [List.take_length]
  simp [clkB, clk]
theorem codT_len {t : Tab} (hl : t.c.l.length ≤ 400) (he : t.e.length ≤ 400) : (codT t).length ≤ 30000 := by
  have := numL_le t.c.c0
  have := numL_le t.c.c1
  have := numL_le t.c.c2
  have := numL_le t.c.c3
  have := numL_le t.c.l.length
  have := codD_len t.c.l
  have := numL_le t.e.length
  have := codE_len t.e
  unfold codT
  simp only [List.length_append]
  omega
theorem TabAt.clk {w : World} {B : Nat} {t : Tab} {A : Option Addr} {ca : Nat} {D : Option Addr} {cd : Nat} (h : TabAt w B t A ca D cd) {k : Nat} (hk : k < 4) : w.cell? ⟨B, k, none⟩ = some (.int .i64 (clk t.c k)) := by
  have h4 : k = 0 ∨ k = 1 ∨ k = 2 ∨ k = 3 := by omega
  rcases h4 with rfl | rfl | rfl | rfl
  · exact h.k0
  · exact h.k1
  · exact h.k2
  · exact h.k3
/-- The first bytes of a sum. -/
def sumP (s : Nat) : Nat → List UInt8
  | 0 => []
  | i + 1 => sumP s i ++ [UInt8.ofNat (s / 256 ^ i % 256)]
theorem sumP_len (s : Nat) : ∀ i, (sumP s i).length = i
  | 0 => rfl
  | i + 1 => by rw [sumP, List.length_append, sumP_len s i]; rfl
theorem sumP_4 (s : Nat) : sumP s 4 = sumB s := by simp [sumP, sumB]
/-- Two texts are joined: the sum's name, what it is. -/
theorem joinB (x y : List UInt8) : ∃ C : ByteArray, Hid (C = ⟨(x ++ y).toArray⟩) := ⟨_, rfl⟩

set_option maxRecDepth 100000 in
set_option maxHeartbeats 8000000 in
theorem rcoded_any (a b : Tab) (A C : Option Addr) (ca cc : Nat) (B D : Option Addr) (cb cd : Nat) (w : World) (hal : a.c.l.length ≤ 400) (hael : a.e.length ≤ 400) (hbl : b.c.l.length ≤ 400) (hbel : b.e.length ≤ 400) (hra : Row w A a.c.l) (hda : RowC w C a.e) (hrb : Row w B b.c.l) (hdb : RowC w D b.e) :
    Calls Try.prog 7 #[.agg #[.int .i64 a.c.c0, .int .i64 a.c.c1, .int .i64 a.c.c2, .int .i64 a.c.c3, .slice A a.c.l.length ca, .slice C a.e.length cc, .int .i64 b.c.c0, .int .i64 b.c.c1, .int .i64 b.c.c2, .int .i64 b.c.c3, .slice B b.c.l.length cb, .slice D b.e.length cd]] w fun e w' => e = .returned (.string ⟨(encP a b).toArray⟩) ∧ Gr w w' := by
  have mixed : Try.prog.follows .mixedOrders = true := by kernel_rfl
  obtain ⟨W, hW⟩ : ∃ W, w.alloc (.cells #[.int .i64 a.c.c0, .int .i64 a.c.c1, .int .i64 a.c.c2, .int .i64 a.c.c3, .slice A a.c.l.length ca, .slice C a.e.length cc, .int .i64 b.c.c0, .int .i64 b.c.c1, .int .i64 b.c.c2, .int .i64 b.c.c3, .slice B b.c.l.length cb, .slice D b.e.length cd] 31) = W := ⟨_, rfl⟩
  have hWs : W.heap.size = w.heap.size + 1 := by rw [← hW]; simp
  have hgW : Gr w W := by rw [← hW]; exact (Gr.refl _).alloc _
  go_enter Try.func7, Try.ntmps7
  go_wp2
  have hWH : Hid (w.alloc (.cells #[.int .i64 a.c.c0, .int .i64 a.c.c1, .int .i64 a.c.c2, .int .i64 a.c.c3, .slice A a.c.l.length ca, .slice C a.e.length cc, .int .i64 b.c.c0, .int .i64 b.c.c1, .int .i64 b.c.c2, .int .i64 b.c.c3, .slice B b.c.l.length cb, .slice D b.e.length cd] 31) = W) := hW
  have hraW := hra.gr hgW
  have hdaW := hda.gr hgW
  have hrbW := hrb.gr hgW
  have hdbW := hdb.gr hgW
  clear hW hra hda hrb hdb
  go_loopw [3, 4] (fun ov iv wr => ∃ (O : ByteArray) (z : Int), ov = .string O ∧ iv = .int .i64 z ∧ (z = 0 ∨ z = 1 ∨ z = 2) ∧ Hid (O = ⟨(if z = 0 then [] else if z = 1 then codT a else bodP a b).toArray⟩) ∧ Gr W wr) (fun _ iv _ => 2 - (intOf iv).toNat)
  case atStart => exact ⟨_, 0, rfl, rfl, Or.inl rfl, rfl, Gr.refl _⟩
  case round =>
    obtain ⟨O, z, rfl, rfl, hz, hO, hgr⟩ := hrel
    rcases hz with rfl | rfl | rfl
    · obtain ⟨p, hpd⟩ : ∃ p : List UInt8, Hid (p = []) := ⟨_, rfl⟩
      have hp : Hid (O = ⟨p.toArray⟩) := by show _ = _; rw [hpd.out]; exact hO.out
      have hpl : Hid (p.length ≤ 30000) := by show _ ≤ _; rw [hpd.out]; simp
      clear hO
      have k0 := box1 (hWH.out ▸ hgr) (j := 0) rfl
      have k1 := box1 (hWH.out ▸ hgr) (j := 1) rfl
      have k2 := box1 (hWH.out ▸ hgr) (j := 2) rfl
      have k3 := box1 (hWH.out ▸ hgr) (j := 3) rfl
      have k4 := box1 (hWH.out ▸ hgr) (j := 4) rfl
      have k5 := box1 (hWH.out ▸ hgr) (j := 5) rfl
      go_wp2
      clear k0 k1 k2 k3 k4 k5
      have ht := TabAt.new (w := wr) (t := a) (A := A) (ca := ca) (D := C) (cd := cc) 28 (hraW.gr hgr) (hdaW.gr hgr) rfl
      obtain ⟨W1, hW1⟩ : ∃ W1, W1 = wr.alloc (.cells #[.int .i64 a.c.c0, .int .i64 a.c.c1, .int .i64 a.c.c2, .int .i64 a.c.c3, .slice A a.c.l.length ca, .slice C a.e.length cc] 28) := ⟨_, rfl⟩
      have hg1 : Gr W W1 := by rw [hW1]; exact hgr.alloc _
      rw [← hW1] at ht ⊢
      obtain ⟨P, hP⟩ : ∃ P, wr.heap.size = P := ⟨_, rfl⟩
      rw [hP] at ht ⊢
      clear hW1 hP hgr
      go_loopw [3, 6] (fun ov kv wi => ∃ (O : ByteArray) (k : Nat), ov = .string O ∧ kv = .int .i64 k ∧ k ≤ 4 ∧ Hid (O = ⟨(told1 p a k).toArray⟩) ∧ Gr W1 wi) (fun _ kv _ => 4 - (intOf kv).toNat)
      case atStart => exact ⟨_, 0, rfl, rfl, by omega, by show _ = _; rw [hp.out]; simp [told1, clkB], Gr.refl _⟩
      case round =>
        rename World => wi
        clear hp
        obtain ⟨O, k, rfl, rfl, hk, hO, hgi⟩ := hrel
        by_cases hlt : k < 4
        · have hltz : (k : Int) < 4 := by omega
          have kc := (ht.gr hgi).clk hlt
          obtain ⟨Z, hZ⟩ := joinB (told1 p a k) (numL (clk a.c k))
          have hsum := addB hZ.out hO.out rfl (by have := told1_len (t := a) hpl.out hk; have := numL_le (clk a.c k); omega)
          go_wp2_with fail
          refine (rnumber_any _ _).mono ?_
          rintro e w1 ⟨rfl, hg2⟩
          clear kc
          go_wp2
          go_roundw
          case rel => exact ⟨Z, k + 1, rfl, by go_num, by omega, by show _ = _; rw [hZ.out]; simp [told1, clkB], hgi.trans hg2⟩
          case measure => simp [intOf]; omega
        · obtain rfl : k = 4 := by omega
          obtain ⟨Z, hZ⟩ := joinB (told1 p a 4) (numL a.c.l.length)
          have hsum := addB hZ.out hO.out rfl (by have := told1_len (t := a) hpl.out hk; have := numL_le a.c.l.length; omega)
          have k4 := (ht.gr hgi).k4
          go_wp2_with fail
          refine (rnumber_any _ _).mono ?_
          rintro e w1 ⟨rfl, hg2⟩
          clear k4
          go_wp2
          have ht2 := (ht.gr hgi).gr hg2
          have hgW2 : Gr W w1 := (hg1.trans hgi).trans hg2
          have hp2 : Hid (Z = ⟨(told2 p a 0).toArray⟩) := by show _ = _; rw [hZ.out]; simp [told1, told2, codD]
          clear hsum hZ hO hgi hg2 hg1 ht
          go_loopw [3, 7] (fun ov kv wi => ∃ (O : ByteArray) (k : Nat), ov = .string O ∧ kv = .int .i64 k ∧ k ≤ a.c.l.length ∧ Hid (O = ⟨(told2 p a k).toArray⟩) ∧ Gr w1 wi) (fun _ kv _ => a.c.l.length - (intOf kv).toNat)
          case atStart => exact ⟨_, 0, rfl, rfl, by omega, hp2, Gr.refl _⟩
          case round =>
            rename World => wj
            clear hp2
            obtain ⟨O, k, rfl, rfl, hk, hO, hgi⟩ := hrel
            have k4 := (ht2.gr hgi).k4
            by_cases hlt : k < a.c.l.length
            · have hltz : (k : Int) < (a.c.l.length : Int) := by omega
              obtain ⟨x, hx⟩ : ∃ x, a.c.l[k] = x := ⟨_, rfl⟩
              obtain ⟨bk, off, hA, hb, hcs⟩ := (ht2.gr hgi).row.at hlt
              have hcsk := hcs k hlt
              rw [hx] at hcsk
              obtain ⟨e0, e1⟩ := hcsk
              rw [hA] at k4
              obtain ⟨Y, hY⟩ := joinB (numL x.1) (numL x.2)
              obtain ⟨Z, hZ⟩ := joinB (told2 p a k) (numL x.1 ++ numL x.2)
              have hl1 := numL_le x.1
              have hl2 := numL_le x.2
              have hsum1 := addB hY.out rfl rfl (by omega)
              have hsum2 := addB hZ.out hO.out hY.out (by have := told2_len (t := a) (k := k) hpl.out hal; rw [List.length_append]; omega)
              have hxH : Hid (a.c.l[k] = x) := hx
              clear hcs hx hl1 hl2
              have k4G := (Gr.refl wj).cellG (a := ⟨P, 4, none⟩) (ht2.gr hgi).lt k4
              have e0G := (Gr.refl wj).cellG (a := ⟨bk, off + k * 2, none⟩) hb e0
              have e1G := (Gr.refl wj).cellG (a := ⟨bk, off + k * 2 + 1, none⟩) hb e1
              go_wp2_with fail
              refine wp_region_quiet_grown mixed (by kernel_rfl) ?_
              repeat (go_big_quiet_step ((go_at_call 10; refine Calls.grown_of (rnumber_any _ _))))
              refine wpQuiet_nil ?_
              rintro _ ⟨⟨nq2, osq2⟩, rfl⟩
              go_wp2
              go_roundw
              case rel => exact ⟨Z, k + 1, rfl, by go_num, by omega, by show _ = _; rw [hZ.out, told2, told2, codD_take hlt hxH.out]; simp, hgi.trans ⟨nq2, osq2, rfl⟩⟩
              case measure => simp [intOf]; omega
            · obtain rfl : k = a.c.l.length := by omega
              have hltz : ¬ (a.c.l.length : Int) < (a.c.l.length : Int) := by omega
              have k5 := (ht2.gr hgi).k5
              obtain ⟨Z, hZ⟩ := joinB (told2 p a a.c.l.length) (numL a.e.length)
              have hsum := addB hZ.out hO.out rfl (by have := told2_len (t := a) (k := a.c.l.length) hpl.out hal; have := numL_le a.e.length; omega)
              go_wp2_with fail
              refine (rnumber_any _ _).mono ?_
              rintro e w2 ⟨rfl, hg2⟩
              clear k4 k5
              go_wp2
              have ht3 := (ht2.gr hgi).gr hg2
              have hgW3 : Gr W w2 := (hgW2.trans hgi).trans hg2
              have hp3 : Hid (Z = ⟨(told3 p a 0).toArray⟩) := by show _ = _; rw [hZ.out]; simp [told2, told3, codE]
              clear hsum hZ hO hgi hg2 hgW2 ht2
              go_loopw [3, 8] (fun ov kv wi => ∃ (O : ByteArray) (k : Nat), ov = .string O ∧ kv = .int .i64 k ∧ k ≤ a.e.length ∧ Hid (O = ⟨(told3 p a k).toArray⟩) ∧ Gr w2 wi) (fun _ kv _ => a.e.length - (intOf kv).toNat)
              case atStart => exact ⟨_, 0, rfl, rfl, by omega, hp3, Gr.refl _⟩
              case round =>
                rename World => wj
                clear hp3
                obtain ⟨O, k, rfl, rfl, hk, hO, hgi⟩ := hrel
                have k5 := (ht3.gr hgi).k5
                by_cases hlt : k < a.e.length
                · have hltz : (k : Int) < (a.e.length : Int) := by omega
                  obtain ⟨x, hx⟩ : ∃ x, a.e[k] = x := ⟨_, rfl⟩
                  obtain ⟨bk, off, hA, hb, hcs⟩ := RowC.get (ht3.gr hgi).rowC hlt
                  have hcsk := hcs k hlt
                  rw [hx] at hcsk
                  obtain ⟨e0, e1, e2, e3, e4⟩ := hcsk
                  rw [hA] at k5
                  have hxH : Hid (a.e[k] = x) := hx
                  obtain ⟨Y1, hY1⟩ := joinB (numL x.1.1) (numL x.1.2)
                  obtain ⟨Y2, hY2⟩ := joinB (numL x.1.1 ++ numL x.1.2) (numL x.2.1)
                  obtain ⟨Y3, hY3⟩ := joinB (numL x.1.1 ++ numL x.1.2 ++ numL x.2.1) (numL x.2.2.1)
                  obtain ⟨Y4, hY4⟩ := joinB (numL x.1.1 ++ numL x.1.2 ++ numL x.2.1 ++ numL x.2.2.1) (numL x.2.2.2)
                  obtain ⟨Z, hZ⟩ := joinB (told3 p a k) (numL x.1.1 ++ numL x.1.2 ++ numL x.2.1 ++ numL x.2.2.1 ++ numL x.2.2.2)
                  have hl1 := numL_le x.1.1
                  have hl2 := numL_le x.1.2
                  have hl3 := numL_le x.2.1
                  have hl4 := numL_le x.2.2.1
                  have hl5 := numL_le x.2.2.2
                  have hsum1 := addB hY1.out rfl rfl (by omega)
                  have hsum2 := addB hY2.out hY1.out rfl (by simp only [List.length_append]; omega)
                  have hsum3 := addB hY3.out hY2.out rfl (by simp only [List.length_append]; omega)
                  have hsum4 := addB hY4.out hY3.out rfl (by simp only [List.length_append]; omega)
                  have hsum5 := addB hZ.out hO.out hY4.out (by have := told3_len (t := a) (k := k) hpl.out hal hael; simp only [List.length_append]; omega)
                  have hg3 : Gr w2 (wj.alloc (.cells #[.int .i64 x.1.1, .int .i64 x.1.2, .int .i64 x.2.1, .int .i64 x.2.2.1, .int .i64 x.2.2.2] 53)) := hgi.alloc _
                  have hxX := CelAt.new (w := wj) x 53 rfl
                  have x0G := (Gr.refl (wj.alloc (.cells #[.int .i64 x.1.1, .int .i64 x.1.2, .int .i64 x.2.1, .int .i64 x.2.2.1, .int .i64 x.2.2.2] 53))).cellG (a := ⟨wj.heap.size, 0, none⟩) hxX.lt hxX.k0
                  have x1G := (Gr.refl (wj.alloc (.cells #[.int .i64 x.1.1, .int .i64 x.1.2, .int .i64 x.2.1, .int .i64 x.2.2.1, .int .i64 x.2.2.2] 53))).cellG (a := ⟨wj.heap.size, 1, none⟩) hxX.lt hxX.k1
                  have x2G := (Gr.refl (wj.alloc (.cells #[.int .i64 x.1.1, .int .i64 x.1.2, .int .i64 x.2.1, .int .i64 x.2.2.1, .int .i64 x.2.2.2] 53))).cellG (a := ⟨wj.heap.size, 2, none⟩) hxX.lt hxX.k2
                  have x3G := (Gr.refl (wj.alloc (.cells #[.int .i64 x.1.1, .int .i64 x.1.2, .int .i64 x.2.1, .int .i64 x.2.2.1, .int .i64 x.2.2.2] 53))).cellG (a := ⟨wj.heap.size, 3, none⟩) hxX.lt hxX.k3
                  have x4G := (Gr.refl (wj.alloc (.cells #[.int .i64 x.1.1, .int .i64 x.1.2, .int .i64 x.2.1, .int .i64 x.2.2.1, .int .i64 x.2.2.2] 53))).cellG (a := ⟨wj.heap.size, 4, none⟩) hxX.lt hxX.k4
                  clear hcs hx hl1 hl2 hl3 hl4 hl5 hxX
                  go_wp2_with fail
                  refine wp_region_quiet_grown mixed (by kernel_rfl) ?_
                  repeat (go_big_quiet_step ((go_at_call 10; refine Calls.grown_of (rnumber_any _ _))))
                  refine wpQuiet_nil ?_
                  rintro _ ⟨⟨nq2, osq2⟩, rfl⟩
                  go_wp2
                  go_roundw
                  case rel => exact ⟨Z, k + 1, rfl, by go_num, by omega, by show _ = _; rw [hZ.out, told3, told3, codE_take hlt hxH.out]; simp, hg3.trans ⟨nq2, osq2, rfl⟩⟩
                  case measure => simp [intOf]; omega
                · obtain rfl : k = a.e.length := by omega
                  have hltz : ¬ (a.e.length : Int) < (a.e.length : Int) := by omega
                  have hend : Hid (O = ⟨(codT a).toArray⟩) := by show _ = _; rw [hO.out, told3_end, hpd.out]; rfl
                  go_wp2
                  go_roundw
                  case rel => exact ⟨O, 1, rfl, rfl, Or.inr (Or.inl rfl), hend, hgW3.trans hgi⟩
                  case measure => simp [intOf]
    · obtain ⟨p, hpd⟩ : ∃ p : List UInt8, Hid (p = codT a) := ⟨_, rfl⟩
      have hp : Hid (O = ⟨p.toArray⟩) := by show _ = _; rw [hpd.out]; exact hO.out
      have hpl : Hid (p.length ≤ 30000) := by show _ ≤ _; rw [hpd.out]; exact codT_len hal hael
      clear hO
      have k0 := box1 (hWH.out ▸ hgr) (j := 6) rfl
      have k1 := box1 (hWH.out ▸ hgr) (j := 7) rfl
      have k2 := box1 (hWH.out ▸ hgr) (j := 8) rfl
      have k3 := box1 (hWH.out ▸ hgr) (j := 9) rfl
      have k4 := box1 (hWH.out ▸ hgr) (j := 10) rfl
      have k5 := box1 (hWH.out ▸ hgr) (j := 11) rfl
      go_wp2
      clear k0 k1 k2 k3 k4 k5
      have ht := TabAt.new (w := wr) (t := b) (A := B) (ca := cb) (D := D) (cd := cd) 28 (hrbW.gr hgr) (hdbW.gr hgr) rfl
      obtain ⟨W1, hW1⟩ : ∃ W1, W1 = wr.alloc (.cells #[.int .i64 b.c.c0, .int .i64 b.c.c1, .int .i64 b.c.c2, .int .i64 b.c.c3, .slice B b.c.l.length cb, .slice D b.e.length cd] 28) := ⟨_, rfl⟩
      have hg1 : Gr W W1 := by rw [hW1]; exact hgr.alloc _
      rw [← hW1] at ht ⊢
      obtain ⟨P, hP⟩ : ∃ P, wr.heap.size = P := ⟨_, rfl⟩
      rw [hP] at ht ⊢
      clear hW1 hP hgr
      go_loopw [3, 6] (fun ov kv wi => ∃ (O : ByteArray) (k : Nat), ov = .string O ∧ kv = .int .i64 k ∧ k ≤ 4 ∧ Hid (O = ⟨(told1 p b k).toArray⟩) ∧ Gr W1 wi) (fun _ kv _ => 4 - (intOf kv).toNat)
      case atStart => exact ⟨_, 0, rfl, rfl, by omega, by show _ = _; rw [hp.out]; simp [told1, clkB], Gr.refl _⟩
      case round =>
        rename World => wi
        clear hp
        obtain ⟨O, k, rfl, rfl, hk, hO, hgi⟩ := hrel
        by_cases hlt : k < 4
        · have hltz : (k : Int) < 4 := by omega
          have kc := (ht.gr hgi).clk hlt
          obtain ⟨Z, hZ⟩ := joinB (told1 p b k) (numL (clk b.c k))
          have hsum := addB hZ.out hO.out rfl (by have := told1_len (t := b) hpl.out hk; have := numL_le (clk b.c k); omega)
          go_wp2_with fail
          refine (rnumber_any _ _).mono ?_
          rintro e w1 ⟨rfl, hg2⟩
          clear kc
          go_wp2
          go_roundw
          case rel => exact ⟨Z, k + 1, rfl, by go_num, by omega, by show _ = _; rw [hZ.out]; simp [told1, clkB], hgi.trans hg2⟩
          case measure => simp [intOf]; omega
        · obtain rfl : k = 4 := by omega
          obtain ⟨Z, hZ⟩ := joinB (told1 p b 4) (numL b.c.l.length)
          have hsum := addB hZ.out hO.out rfl (by have := told1_len (t := b) hpl.out hk; have := numL_le b.c.l.length; omega)
          have k4 := (ht.gr hgi).k4
          go_wp2_with fail
          refine (rnumber_any _ _).mono ?_
          rintro e w1 ⟨rfl, hg2⟩
          clear k4
          go_wp2
          have ht2 := (ht.gr hgi).gr hg2
          have hgW2 : Gr W w1 := (hg1.trans hgi).trans hg2
          have hp2 : Hid (Z = ⟨(told2 p b 0).toArray⟩) := by show _ = _; rw [hZ.out]; simp [told1, told2, codD]
          clear hsum hZ hO hgi hg2 hg1 ht
          go_loopw [3, 7] (fun ov kv wi => ∃ (O : ByteArray) (k : Nat), ov = .string O ∧ kv = .int .i64 k ∧ k ≤ b.c.l.length ∧ Hid (O = ⟨(told2 p b k).toArray⟩) ∧ Gr w1 wi) (fun _ kv _ => b.c.l.length - (intOf kv).toNat)
          case atStart => exact ⟨_, 0, rfl, rfl, by omega, hp2, Gr.refl _⟩
          case round =>
            rename World => wj
            clear hp2
            obtain ⟨O, k, rfl, rfl, hk, hO, hgi⟩ := hrel
            have k4 := (ht2.gr hgi).k4
            by_cases hlt : k < b.c.l.length
            · have hltz : (k : Int) < (b.c.l.length : Int) := by omega
              obtain ⟨x, hx⟩ : ∃ x, b.c.l[k] = x := ⟨_, rfl⟩
              obtain ⟨bk, off, hA, hb, hcs⟩ := (ht2.gr hgi).row.at hlt
              have hcsk := hcs k hlt
              rw [hx] at hcsk
              obtain ⟨e0, e1⟩ := hcsk
              rw [hA] at k4
              obtain ⟨Y, hY⟩ := joinB (numL x.1) (numL x.2)
              obtain ⟨Z, hZ⟩ := joinB (told2 p b k) (numL x.1 ++ numL x.2)
              have hl1 := numL_le x.1
              have hl2 := numL_le x.2
              have hsum1 := addB hY.out rfl rfl (by omega)
              have hsum2 := addB hZ.out hO.out hY.out (by have := told2_len (t := b) (k := k) hpl.out hbl; rw [List.length_append]; omega)
              have hxH : Hid (b.c.l[k] = x) := hx
              clear hcs hx hl1 hl2
              have k4G := (Gr.refl wj).cellG (a := ⟨P, 4, none⟩) (ht2.gr hgi).lt k4
              have e0G := (Gr.refl wj).cellG (a := ⟨bk, off + k * 2, none⟩) hb e0
              have e1G := (Gr.refl wj).cellG (a := ⟨bk, off + k * 2 + 1, none⟩) hb e1
              go_wp2_with fail
              refine wp_region_quiet_grown mixed (by kernel_rfl) ?_
              repeat (go_big_quiet_step ((go_at_call 10; refine Calls.grown_of (rnumber_any _ _))))
              refine wpQuiet_nil ?_
              rintro _ ⟨⟨nq2, osq2⟩, rfl⟩
              go_wp2
              go_roundw
              case rel => exact ⟨Z, k + 1, rfl, by go_num, by omega, by show _ = _; rw [hZ.out, told2, told2, codD_take hlt hxH.out]; simp, hgi.trans ⟨nq2, osq2, rfl⟩⟩
              case measure => simp [intOf]; omega
            · obtain rfl : k = b.c.l.length := by omega
              have hltz : ¬ (b.c.l.length : Int) < (b.c.l.length : Int) := by omega
              have k5 := (ht2.gr hgi).k5
              obtain ⟨Z, hZ⟩ := joinB (told2 p b b.c.l.length) (numL b.e.length)
              have hsum := addB hZ.out hO.out rfl (by have := told2_len (t := b) (k := b.c.l.length) hpl.out hbl; have := numL_le b.e.length; omega)
              go_wp2_with fail
              refine (rnumber_any _ _).mono ?_
              rintro e w2 ⟨rfl, hg2⟩
              clear k4 k5
              go_wp2
              have ht3 := (ht2.gr hgi).gr hg2
              have hgW3 : Gr W w2 := (hgW2.trans hgi).trans hg2
              have hp3 : Hid (Z = ⟨(told3 p b 0).toArray⟩) := by show _ = _; rw [hZ.out]; simp [told2, told3, codE]
              clear hsum hZ hO hgi hg2 hgW2 ht2
              go_loopw [3, 8] (fun ov kv wi => ∃ (O : ByteArray) (k : Nat), ov = .string O ∧ kv = .int .i64 k ∧ k ≤ b.e.length ∧ Hid (O = ⟨(told3 p b k).toArray⟩) ∧ Gr w2 wi) (fun _ kv _ => b.e.length - (intOf kv).toNat)
              case atStart => exact ⟨_, 0, rfl, rfl, by omega, hp3, Gr.refl _⟩
              case round =>
                rename World => wj
                clear hp3
                obtain ⟨O, k, rfl, rfl, hk, hO, hgi⟩ := hrel
                have k5 := (ht3.gr hgi).k5
                by_cases hlt : k < b.e.length
                · have hltz : (k : Int) < (b.e.length : Int) := by omega
                  obtain ⟨x, hx⟩ : ∃ x, b.e[k] = x := ⟨_, rfl⟩
                  obtain ⟨bk, off, hA, hb, hcs⟩ := RowC.get (ht3.gr hgi).rowC hlt
                  have hcsk := hcs k hlt
                  rw [hx] at hcsk
                  obtain ⟨e0, e1, e2, e3, e4⟩ := hcsk
                  rw [hA] at k5
                  have hxH : Hid (b.e[k] = x) := hx
                  obtain ⟨Y1, hY1⟩ := joinB (numL x.1.1) (numL x.1.2)
                  obtain ⟨Y2, hY2⟩ := joinB (numL x.1.1 ++ numL x.1.2) (numL x.2.1)
                  obtain ⟨Y3, hY3⟩ := joinB (numL x.1.1 ++ numL x.1.2 ++ numL x.2.1) (numL x.2.2.1)
                  obtain ⟨Y4, hY4⟩ := joinB (numL x.1.1 ++ numL x.1.2 ++ numL x.2.1 ++ numL x.2.2.1) (numL x.2.2.2)
                  obtain ⟨Z, hZ⟩ := joinB (told3 p b k) (numL x.1.1 ++ numL x.1.2 ++ numL x.2.1 ++ numL x.2.2.1 ++ numL x.2.2.2)
                  have hl1 := numL_le x.1.1
                  have hl2 := numL_le x.1.2
                  have hl3 := numL_le x.2.1
                  have hl4 := numL_le x.2.2.1
                  have hl5 := numL_le x.2.2.2
                  have hsum1 := addB hY1.out rfl rfl (by omega)
                  have hsum2 := addB hY2.out hY1.out rfl (by simp only [List.length_append]; omega)
                  have hsum3 := addB hY3.out hY2.out rfl (by simp only [List.length_append]; omega)
                  have hsum4 := addB hY4.out hY3.out rfl (by simp only [List.length_append]; omega)
                  have hsum5 := addB hZ.out hO.out hY4.out (by have := told3_len (t := b) (k := k) hpl.out hbl hbel; simp only [List.length_append]; omega)
                  have hg3 : Gr w2 (wj.alloc (.cells #[.int .i64 x.1.1, .int .i64 x.1.2, .int .i64 x.2.1, .int .i64 x.2.2.1, .int .i64 x.2.2.2] 53)) := hgi.alloc _
                  have hxX := CelAt.new (w := wj) x 53 rfl
                  have x0G := (Gr.refl (wj.alloc (.cells #[.int .i64 x.1.1, .int .i64 x.1.2, .int .i64 x.2.1, .int .i64 x.2.2.1, .int .i64 x.2.2.2] 53))).cellG (a := ⟨wj.heap.size, 0, none⟩) hxX.lt hxX.k0
                  have x1G := (Gr.refl (wj.alloc (.cells #[.int .i64 x.1.1, .int .i64 x.1.2, .int .i64 x.2.1, .int .i64 x.2.2.1, .int .i64 x.2.2.2] 53))).cellG (a := ⟨wj.heap.size, 1, none⟩) hxX.lt hxX.k1
                  have x2G := (Gr.refl (wj.alloc (.cells #[.int .i64 x.1.1, .int .i64 x.1.2, .int .i64 x.2.1, .int .i64 x.2.2.1, .int .i64 x.2.2.2] 53))).cellG (a := ⟨wj.heap.size, 2, none⟩) hxX.lt hxX.k2
                  have x3G := (Gr.refl (wj.alloc (.cells #[.int .i64 x.1.1, .int .i64 x.1.2, .int .i64 x.2.1, .int .i64 x.2.2.1, .int .i64 x.2.2.2] 53))).cellG (a := ⟨wj.heap.size, 3, none⟩) hxX.lt hxX.k3
                  have x4G := (Gr.refl (wj.alloc (.cells #[.int .i64 x.1.1, .int .i64 x.1.2, .int .i64 x.2.1, .int .i64 x.2.2.1, .int .i64 x.2.2.2] 53))).cellG (a := ⟨wj.heap.size, 4, none⟩) hxX.lt hxX.k4
                  clear hcs hx hl1 hl2 hl3 hl4 hl5 hxX
                  go_wp2_with fail
                  refine wp_region_quiet_grown mixed (by kernel_rfl) ?_
                  repeat (go_big_quiet_step ((go_at_call 10; refine Calls.grown_of (rnumber_any _ _))))
                  refine wpQuiet_nil ?_
                  rintro _ ⟨⟨nq2, osq2⟩, rfl⟩
                  go_wp2
                  go_roundw
                  case rel => exact ⟨Z, k + 1, rfl, by go_num, by omega, by show _ = _; rw [hZ.out, told3, told3, codE_take hlt hxH.out]; simp, hg3.trans ⟨nq2, osq2, rfl⟩⟩
                  case measure => simp [intOf]; omega
                · obtain rfl : k = b.e.length := by omega
                  have hltz : ¬ (b.e.length : Int) < (b.e.length : Int) := by omega
                  have hend : Hid (O = ⟨(bodP a b).toArray⟩) := by show _ = _; rw [hO.out, told3_end, hpd.out]; rfl
                  go_wp2
                  go_roundw
                  case rel => exact ⟨O, 2, rfl, rfl, Or.inr (Or.inr rfl), hend, hgW3.trans hgi⟩
                  case measure => simp [intOf]
    · obtain ⟨x, hx⟩ : ∃ x, Hid (x = bodP a b) := ⟨_, rfl⟩
      have hOx : O = ⟨x.toArray⟩ := by rw [hx.out]; exact hO.out
      have hxl : Hid (x.length ≤ 60000) := by
        show _ ≤ _
        rw [hx.out, bodP, List.length_append]
        have := codT_len hal hael
        have := codT_len hbl hbel
        omega
      clear hO
      go_wp2_with fail
      rw [hOx]
      refine (rsum_any x _ (by have := hxl.out; unfold maxLen; omega)).mono ?_
      rintro e w1 ⟨rfl, rfl⟩
      obtain ⟨s0, hs0⟩ : ∃ s0, sumL x = s0 := ⟨_, rfl⟩
      have hs0l : s0 ≤ 4294967295 := by rw [← hs0]; unfold sumL; omega
      rw [hs0]
      have hs0H : Hid (sumL x = s0) := hs0
      clear hs0 hOx
      go_wp2
      go_loopw [3, 10, 11] (fun ov nv iv wi => ∃ (O : ByteArray) (m i : Nat), ov = .string O ∧ nv = .int .u32 m ∧ iv = .int .i64 i ∧ i ≤ 4 ∧ m ≤ 4294967295 ∧ Hid (O = ⟨(x ++ sumP s0 i).toArray⟩ ∧ m = s0 / 256 ^ i) ∧ Gr w1 wi) (fun _ _ iv _ => 4 - (intOf iv).toNat)
      case atStart => exact ⟨_, s0, 0, rfl, rfl, rfl, by omega, hs0l, ⟨by simp [sumP], by simp⟩, Gr.refl _⟩
      case round =>
        rename World => wi
        obtain ⟨O, m, i, rfl, rfl, rfl, hi, hm, hO, hgi⟩ := hrel
        by_cases hlt : i < 4
        · have hltz : (i : Int) < 4 := by omega
          have hcv := oneByte ((m : Int) % 256) wi
          obtain ⟨Bt, hBt⟩ : ∃ B : ByteArray, (⟨#[UInt8.ofNat ((m : Int) % 256).toNat]⟩ : ByteArray) = B := ⟨_, rfl⟩
          obtain ⟨Z, hZ⟩ := joinB (x ++ sumP s0 i) [UInt8.ofNat (m % 256)]
          rw [hBt] at hcv
          have hsum := addB (b := Bt) hZ.out hO.out.1 (by rw [← hBt, show ((m : Int) % 256).toNat = m % 256 by omega]) (by have := hxl.out; have := sumP_len s0 i; simp; omega)
          have hnx : Hid (Z = ⟨(x ++ sumP s0 (i + 1)).toArray⟩ ∧ m / 256 = s0 / 256 ^ (i + 1)) := by
            refine ⟨?_, ?_⟩
            · rw [hZ.out, sumP, ← hO.out.2, List.append_assoc]
            · rw [hO.out.2, Nat.div_div_eq_div_mul, Nat.pow_succ]
          have hgX : Gr w1 (wi.alloc (.cells #[.int .u8 ((m : Int) % 256)] 5)) := hgi.alloc _
          clear hBt
          go_wp2
          go_roundw
          case rel => exact ⟨Z, m / 256, i + 1, rfl, by go_num, by go_num, by omega, by omega, hnx, hgX⟩
          case measure => simp [intOf]; omega
        · obtain rfl : i = 4 := by omega
          have hend : Hid (O = ⟨(encP a b).toArray⟩) := by
            show _ = _
            rw [hO.out.1, ← hs0H.out, sumP_4, hx.out]
            rfl
          go_wp2
          go_ret
          rw [hend.out]
          exact ⟨rfl, (hgW.trans hgr).trans hgi⟩
end Go.Proofs.Ytbhhpijidbhipaa
