/-
  Sets with weights are a group: it doesn't matter in which order; each has its opposite (viewkeep.ZsetGroup): whatever is handed in, the law says true.
-/
import Derived.Test.YtjgefnipkaecgacKGrpBase
namespace Go.Proofs.Ytjgefnipkaecgac
open Go.RowKit Go.Sort

set_option maxRecDepth 100000 in
set_option maxHeartbeats 4000000 in
theorem zsetGroup_any (x y z : List Itm) (A B C : Option Addr) (ca cb cc : Nat) (w : World) (hx : Lv w A ca x) (hy : Lv w B cb y) (hz : Lv w C cc z) :
    Calls Try.prog 4 #[.slice A x.length ca, .slice B y.length cb, .slice C z.length cc] w fun e w' => e = .returned (.bool true) ∧ Below w.heap.size w w' := by
  have hc := normV (lit_lv w) (lit_z w.heap.size)
  rw [lit_e.1] at hc
  have hcH : Hid _ := hc
  clear hc
  have hB0 : Hid (Below w.heap.size w (litW w)) := (lit_gr w).below
  have hx0 : Hid (Lv (litW w) A ca x) := hx.gr (lit_gr w)
  have hy0 : Hid (Lv (litW w) B cb y) := hy.gr (lit_gr w)
  have hz0 : Hid (Lv (litW w) C cc z) := hz.gr (lit_gr w)
  clear hx hy hz
  go_enter Try.func4, Try.ntmps4
  go_wp2_with fail
  refine Calls.mono (show Calls _ _ _ _ _ from hcH.out) ?_
  rintro e w1 ⟨L0, D1, k1, rfl, hzL, hv, hb⟩
  clear hcH
  obtain ⟨t0, rfl, ht5⟩ := one_z hzL lit_e.2
  have hx1 : Hid (Lv w1 A ca x) := hx0.out.below hb
  have hy1 : Hid (Lv w1 B cb y) := hy0.out.below hb
  have hz1 : Hid (Lv w1 C cc z) := hz0.out.below hb
  have hB1 : Hid (Below w.heap.size w w1) := hB0.out.trans (hb.mono hB0.out.size)
  clear hB0 hx0 hy0 hz0
  obtain ⟨b0, o0, hD, hb0, hcs⟩ := hv.items.at (k := 0) (by simp)
  subst hD
  have c1 := (hcs 0 (by simp)).2
  have c2 : w1.cell? ⟨b0, o0 + 1, none⟩ = some (.int .i64 5) := by simpa [ht5] using c1
  clear c1 hcs hb0 hv hb hzL ht5
  have hc := normV hx1.out rfl
  have hcH : Hid _ := hc
  clear hc
  go_wp2_with fail
  refine Calls.mono (show Calls _ _ _ _ _ from hcH.out) ?_
  rintro e w2 ⟨a, D2, k2, rfl, za, hv, hb⟩
  clear hcH
  have hx2 : Hid (Lv w2 A ca x) := hx1.out.below hb
  have hy2 : Hid (Lv w2 B cb y) := hy1.out.below hb
  have hz2 : Hid (Lv w2 C cc z) := hz1.out.below hb
  have hB2 : Hid (Below w.heap.size w w2) := hB1.out.trans (hb.mono hB1.out.size)
  clear hB1 hx1 hy1 hz1
  have ha2 : Hid (Lv w2 D2 k2 a) := hv
  have zaH : Hid (a.map Itm.z = _) := za
  clear hv hb za
  clear c2
  have hc := normV hy2.out rfl
  have hcH : Hid _ := hc
  clear hc
  go_wp2_with fail
  refine Calls.mono (show Calls _ _ _ _ _ from hcH.out) ?_
  rintro e w3 ⟨b, D3, k3, rfl, zb, hv, hb⟩
  clear hcH
  have hy3 : Hid (Lv w3 B cb y) := hy2.out.below hb
  have hz3 : Hid (Lv w3 C cc z) := hz2.out.below hb
  have ha3 : Hid (Lv w3 D2 k2 a) := ha2.out.below hb
  have hB3 : Hid (Below w.heap.size w w3) := hB2.out.trans (hb.mono hB2.out.size)
  clear hB2 hy2 hz2 ha2
  have hb3 : Hid (Lv w3 D3 k3 b) := hv
  have zbH : Hid (b.map Itm.z = _) := zb
  clear hv hb zb
  have hc := normV hz3.out rfl
  have hcH : Hid _ := hc
  clear hc
  go_wp2_with fail
  refine Calls.mono (show Calls _ _ _ _ _ from hcH.out) ?_
  rintro e w4 ⟨c, D4, k4, rfl, zc, hv, hb⟩
  clear hcH
  have hz4 : Hid (Lv w4 C cc z) := hz3.out.below hb
  have ha4 : Hid (Lv w4 D2 k2 a) := ha3.out.below hb
  have hb4 : Hid (Lv w4 D3 k3 b) := hb3.out.below hb
  have hB4 : Hid (Below w.heap.size w w4) := hB3.out.trans (hb.mono hB3.out.size)
  clear hB3 hz3 ha3 hb3
  have hc4 : Hid (Lv w4 D4 k4 c) := hv
  have zcH : Hid (c.map Itm.z = _) := zc
  clear hv hb zc
  obtain ⟨Ex, hEx⟩ : ∃ E, normE (x.map Itm.z) = E := ⟨_, rfl⟩
  have hExH : Hid (normE (x.map Itm.z) = Ex) := hEx
  rw [hEx]
  clear hEx
  obtain ⟨Ey, hEy⟩ : ∃ E, normE (y.map Itm.z) = E := ⟨_, rfl⟩
  have hEyH : Hid (normE (y.map Itm.z) = Ey) := hEy
  rw [hEy]
  clear hEy
  obtain ⟨Ez, hEz⟩ : ∃ E, normE (z.map Itm.z) = E := ⟨_, rfl⟩
  have hEzH : Hid (normE (z.map Itm.z) = Ez) := hEz
  rw [hEz]
  clear hEz
  cases hqEx : (Ex != 0)
  rotate_left
  · go_wp2
    go_ret
    exact ⟨rfl, hB4.out⟩
  obtain rfl : Ex = 0 := by simpa using hqEx
  clear hqEx
  cases hqEy : (Ey != 0)
  rotate_left
  · go_wp2
    go_ret
    exact ⟨rfl, hB4.out⟩
  obtain rfl : Ey = 0 := by simpa using hqEy
  clear hqEy
  cases hqEz : (Ez != 0)
  rotate_left
  · go_wp2
    go_ret
    exact ⟨rfl, hB4.out⟩
  obtain rfl : Ez = 0 := by simpa using hqEz
  clear hqEz
  obtain ⟨za1, za2⟩ := norm_ok hExH.out
  obtain ⟨zb1, zb2⟩ := norm_ok hEyH.out
  obtain ⟨zc1, zc2⟩ := norm_ok hEzH.out
  obtain ⟨ma, hma⟩ : ∃ m, totL (x.map Itm.z) = m := ⟨_, rfl⟩
  have qa : Hid (a.map Itm.z = ma ∧ errZ ma = 0) := ⟨by rw [zaH.out, za1, hma], by rw [← hma]; exact za2⟩
  clear zaH za1 za2 hma
  obtain ⟨mb, hmb⟩ : ∃ m, totL (y.map Itm.z) = m := ⟨_, rfl⟩
  have qb : Hid (b.map Itm.z = mb ∧ errZ mb = 0) := ⟨by rw [zbH.out, zb1, hmb], by rw [← hmb]; exact zb2⟩
  clear zbH zb1 zb2 hmb
  obtain ⟨mc, hmc⟩ : ∃ m, totL (z.map Itm.z) = m := ⟨_, rfl⟩
  have qc : Hid (c.map Itm.z = mc ∧ errZ mc = 0) := ⟨by rw [zcH.out, zc1, hmc], by rw [← hmc]; exact zc2⟩
  clear zcH zc1 zc2 hmc
  clear hExH hEyH hEzH
  have hc := negV ha4.out qa.out.1
  have hcH : Hid _ := hc
  clear hc
  go_wp2_with fail
  refine Calls.mono (show Calls _ _ _ _ _ from hcH.out) ?_
  rintro e w5 ⟨g, D5, k5, rfl, zg, hv, hb⟩
  clear hcH
  have ha5 : Hid (Lv w5 D2 k2 a) := ha4.out.below hb
  have hb5 : Hid (Lv w5 D3 k3 b) := hb4.out.below hb
  have hc5 : Hid (Lv w5 D4 k4 c) := hc4.out.below hb
  have hB5 : Hid (Below w.heap.size w w5) := hB4.out.trans (hb.mono hB4.out.size)
  clear hB4 ha4 hb4 hc4
  have hg5 : Hid (Lv w5 D5 k5 g) := hv
  have zgH : Hid (g.map Itm.z = _) := zg
  clear hv hb zg
  have qg : Hid (g.map Itm.z = ma.map fun x => (x.1, -x.2)) := by show _ = _; rw [zgH.out]; unfold negL; rw [if_pos qa.out.2]
  clear zgH
  rw [qa.out.2]
  have hc := addV ha5.out hg5.out qa.out.1 qg.out
  have hcH : Hid _ := hc
  clear hc
  go_wp2_with fail
  refine Calls.mono (show Calls _ _ _ _ _ from hcH.out) ?_
  rintro e w6 ⟨o, D6, k6, rfl, zo, hv, hb⟩
  clear hcH
  have ha6 : Hid (Lv w6 D2 k2 a) := ha5.out.below hb
  have hb6 : Hid (Lv w6 D3 k3 b) := hb5.out.below hb
  have hc6 : Hid (Lv w6 D4 k4 c) := hc5.out.below hb
  have hg6 : Hid (Lv w6 D5 k5 g) := hg5.out.below hb
  have hB6 : Hid (Below w.heap.size w w6) := hB5.out.trans (hb.mono hB5.out.size)
  clear hB5 ha5 hb5 hc5 hg5
  have ho6 : Hid (Lv w6 D6 k6 o) := hv
  have zoH : Hid (o.map Itm.z = _) := zo
  clear hv hb zo
  have qo := add_neg qa.out.2
  rw [qo.1]
  obtain rfl := none_z (zoH.out.trans qo.2)
  clear qo zoH qg
  have hc := checkV ha6.out qa.out.1
  rw [qa.out.2] at hc
  have hcH : Hid _ := hc
  clear hc
  go_wp2_with fail
  refine Calls.mono (show Calls _ _ _ _ _ from hcH.out) ?_
  rintro e w7 ⟨rfl, hg⟩
  clear hcH
  have ha7 : Hid (Lv w7 D2 k2 a) := ha6.out.gr hg
  have hb7 : Hid (Lv w7 D3 k3 b) := hb6.out.gr hg
  have hc7 : Hid (Lv w7 D4 k4 c) := hc6.out.gr hg
  have hB7 : Hid (Below w.heap.size w w7) := hB6.out.trans (hg.below.mono hB6.out.size)
  clear hB6 ha6 hb6 hc6
  clear hg
  have hc := addV ha7.out hb7.out qa.out.1 qb.out.1
  have hcH : Hid _ := hc
  clear hc
  go_wp2_with fail
  refine Calls.mono (show Calls _ _ _ _ _ from hcH.out) ?_
  rintro e w8 ⟨ab, D8, k8, rfl, zab, hv, hb⟩
  clear hcH
  have ha8 : Hid (Lv w8 D2 k2 a) := ha7.out.below hb
  have hb8 : Hid (Lv w8 D3 k3 b) := hb7.out.below hb
  have hc8 : Hid (Lv w8 D4 k4 c) := hc7.out.below hb
  have hB8 : Hid (Below w.heap.size w w8) := hB7.out.trans (hb.mono hB7.out.size)
  clear hB7 ha7 hb7 hc7
  have hab8 : Hid (Lv w8 D8 k8 ab) := hv
  have zabH : Hid (ab.map Itm.z = _) := zab
  clear hv hb zab
  have hc := addV hb8.out hc8.out qb.out.1 qc.out.1
  have hcH : Hid _ := hc
  clear hc
  go_wp2_with fail
  refine Calls.mono (show Calls _ _ _ _ _ from hcH.out) ?_
  rintro e w9 ⟨bc, D9, k9, rfl, zbc, hv, hb⟩
  clear hcH
  have ha9 : Hid (Lv w9 D2 k2 a) := ha8.out.below hb
  have hb9 : Hid (Lv w9 D3 k3 b) := hb8.out.below hb
  have hc9 : Hid (Lv w9 D4 k4 c) := hc8.out.below hb
  have hab9 : Hid (Lv w9 D8 k8 ab) := hab8.out.below hb
  have hB9 : Hid (Below w.heap.size w w9) := hB8.out.trans (hb.mono hB8.out.size)
  clear hB8 ha8 hb8 hc8 hab8
  have hbc9 : Hid (Lv w9 D9 k9 bc) := hv
  have zbcH : Hid (bc.map Itm.z = _) := zbc
  clear hv hb zbc
  obtain ⟨Eab, hEab⟩ : ∃ E, addE ma mb = E := ⟨_, rfl⟩
  have hEabH : Hid (addE ma mb = Eab) := hEab
  rw [hEab]
  clear hEab
  obtain ⟨Ebc, hEbc⟩ : ∃ E, addE mb mc = E := ⟨_, rfl⟩
  have hEbcH : Hid (addE mb mc = Ebc) := hEbc
  rw [hEbc]
  clear hEbc
  cases hqEab : (Eab != 0)
  rotate_left
  · go_wp2
    go_ret
    exact ⟨rfl, hB9.out⟩
  obtain rfl : Eab = 0 := by simpa using hqEab
  clear hqEab
  cases hqEbc : (Ebc != 0)
  rotate_left
  · go_wp2
    go_ret
    exact ⟨rfl, hB9.out⟩
  obtain rfl : Ebc = 0 := by simpa using hqEbc
  clear hqEbc
  have hcm := add_comm hEabH.out
  have hc := addV hb9.out ha9.out qb.out.1 qa.out.1
  have hcH : Hid _ := hc
  clear hc
  go_wp2_with fail
  refine Calls.mono (show Calls _ _ _ _ _ from hcH.out) ?_
  rintro e w10 ⟨ba, D10, k10, rfl, zba, hv, hb⟩
  clear hcH
  have ha10 : Hid (Lv w10 D2 k2 a) := ha9.out.below hb
  have hb10 : Hid (Lv w10 D3 k3 b) := hb9.out.below hb
  have hc10 : Hid (Lv w10 D4 k4 c) := hc9.out.below hb
  have hab10 : Hid (Lv w10 D8 k8 ab) := hab9.out.below hb
  have hbc10 : Hid (Lv w10 D9 k9 bc) := hbc9.out.below hb
  have hB10 : Hid (Below w.heap.size w w10) := hB9.out.trans (hb.mono hB9.out.size)
  clear hB9 ha9 hb9 hc9 hab9 hbc9
  have hba10 : Hid (Lv w10 D10 k10 ba) := hv
  have zbaH : Hid (ba.map Itm.z = _) := zba
  clear hv hb zba
  rw [hcm.1]
  go_wp2_with fail
  refine Calls.mono (sum_any _ _ _ _) ?_
  rintro e w' ⟨rfl, rfl⟩
  have hc := sameV hab10.out hba10.out (by rw [zabH.out, zbaH.out]; exact hcm.2)
  have hcH : Hid _ := hc
  clear hc hcm
  go_wp2_with fail
  refine Calls.mono (show Calls _ _ _ _ _ from hcH.out) ?_
  rintro e w11 ⟨rfl, hg⟩
  clear hcH
  have ha11 : Hid (Lv w11 D2 k2 a) := ha10.out.gr hg
  have hb11 : Hid (Lv w11 D3 k3 b) := hb10.out.gr hg
  have hc11 : Hid (Lv w11 D4 k4 c) := hc10.out.gr hg
  have hab11 : Hid (Lv w11 D8 k8 ab) := hab10.out.gr hg
  have hbc11 : Hid (Lv w11 D9 k9 bc) := hbc10.out.gr hg
  have hB11 : Hid (Below w.heap.size w w11) := hB10.out.trans (hg.below.mono hB10.out.size)
  clear hB10 ha10 hb10 hc10 hab10 hbc10
  clear hg zbaH
  have hc := addV hab11.out hc11.out zabH.out qc.out.1
  have hcH : Hid _ := hc
  clear hc
  go_wp2_with fail
  refine Calls.mono (show Calls _ _ _ _ _ from hcH.out) ?_
  rintro e w12 ⟨le, D12, k12, rfl, zle, hv, hb⟩
  clear hcH
  have ha12 : Hid (Lv w12 D2 k2 a) := ha11.out.below hb
  have hb12 : Hid (Lv w12 D3 k3 b) := hb11.out.below hb
  have hc12 : Hid (Lv w12 D4 k4 c) := hc11.out.below hb
  have hab12 : Hid (Lv w12 D8 k8 ab) := hab11.out.below hb
  have hbc12 : Hid (Lv w12 D9 k9 bc) := hbc11.out.below hb
  have hB12 : Hid (Below w.heap.size w w12) := hB11.out.trans (hb.mono hB11.out.size)
  clear hB11 ha11 hb11 hc11 hab11 hbc11
  have hle12 : Hid (Lv w12 D12 k12 le) := hv
  have zleH : Hid (le.map Itm.z = _) := zle
  clear hv hb zle
  have hc := addV ha12.out hbc12.out qa.out.1 zbcH.out
  have hcH : Hid _ := hc
  clear hc
  go_wp2_with fail
  refine Calls.mono (show Calls _ _ _ _ _ from hcH.out) ?_
  rintro e w13 ⟨ri, D13, k13, rfl, zri, hv, hb⟩
  clear hcH
  have ha13 : Hid (Lv w13 D2 k2 a) := ha12.out.below hb
  have hb13 : Hid (Lv w13 D3 k3 b) := hb12.out.below hb
  have hc13 : Hid (Lv w13 D4 k4 c) := hc12.out.below hb
  have hab13 : Hid (Lv w13 D8 k8 ab) := hab12.out.below hb
  have hbc13 : Hid (Lv w13 D9 k9 bc) := hbc12.out.below hb
  have hle13 : Hid (Lv w13 D12 k12 le) := hle12.out.below hb
  have hB13 : Hid (Below w.heap.size w w13) := hB12.out.trans (hb.mono hB12.out.size)
  clear hB12 ha12 hb12 hc12 hab12 hbc12 hle12
  have hri13 : Hid (Lv w13 D13 k13 ri) := hv
  have zriH : Hid (ri.map Itm.z = _) := zri
  clear hv hb zri
  have hal := fun h => add_assoc hEabH.out hEbcH.out h
  have halH : Hid (addE (addL ma mb) mc = addE ma (addL mb mc) → addL (addL ma mb) mc = addL ma (addL mb mc)) := hal
  clear hal
  obtain ⟨Ele, hEle⟩ : ∃ E, addE (addL ma mb) mc = E := ⟨_, rfl⟩
  have hEleH : Hid (addE (addL ma mb) mc = Ele) := hEle
  rw [hEle]
  clear hEle
  obtain ⟨Eri, hEri⟩ : ∃ E, addE ma (addL mb mc) = E := ⟨_, rfl⟩
  have hEriH : Hid (addE ma (addL mb mc) = Eri) := hEri
  rw [hEri]
  clear hEri
  cases hqF : (Ele != Eri)
  · obtain rfl : Ele = Eri := by simpa using hqF
    have hc := sameV hle13.out hri13.out (by rw [zleH.out, zriH.out]; exact halH.out (hEleH.out.trans hEriH.out.symm))
    have hcH : Hid _ := hc
    clear hc
    go_wp2_with fail
    refine Calls.mono (show Calls _ _ _ _ _ from hcH.out) ?_
    rintro e w14 ⟨rfl, hg⟩
    clear hcH
    have hBF : Hid (Below w.heap.size w w14) := hB13.out.trans (hg.below.mono hB13.out.size)
    clear hg
    go_wp2
    go_ret
    exact ⟨rfl, hBF.out⟩
  · go_wp2
    go_ret
    exact ⟨rfl, hB13.out⟩

open Go.ChangeShapes Go.WideShapes Go.ChangeAt Go.RowKit

set_option maxRecDepth 100000 in
theorem zsetGroup_lifted (os : Os) (started : os.Started) (H : Type) (enc : TypeId × Value → H) :
    ReturnsInHanded {} Try.checked os 4 .any (Rows.zsetGroupSpec.pre6 enc Try.prog Try.f4 Rows.zsetGroupRow.domain false) (Rows.zsetGroupSpec.post enc Try.prog Try.f4 false true false false) := by
  refine returnsInHanded_of_change (C := Try.checked) ownK started (by kernel_rfl) Try.func4
    (ChangeSpec.witness6 (enc := enc) (C := Try.checked) false ⟨#[], #[.slice none 0 0, .slice none 0 0, .slice none 0 0], []⟩ 8 (by kernel_rfl) (by kernel_rfl) (by kernel_rfl) (by kernel_rfl)) ?_
  intro W base args ds gs before hval0 hW hcnd _
  have hval : ∀ (j : Nat) t v, Try.f4.params[j]? = some t → args[j]? = some v → Value.okWide Try.prog W .any base t v := hval0
  have hW' := hW
  obtain ⟨p, q, hA0, hV, rfl, hfz, hnd⟩ := hW
  have hA : DataW.TrodAll enc Try.prog W 0 (fun _ => true) true Try.f4.params.toList args.toList ds p := hA0
  rw [Try.params4] at hA hval
  obtain ⟨v0, vs0, d0, ds0, p0, q0, hargs, rfl, rfl, h0, r0⟩ := trodAll_cons hA
  obtain ⟨v1, vs1, d1, ds1, p1, q1, rfl, rfl, rfl, h1, r1⟩ := trodAll_cons r0
  obtain ⟨v2, vs2, d2, ds2, p2, q2, rfl, rfl, rfl, h2, r2⟩ := trodAll_cons r1
  obtain ⟨rfl, rfl, rfl⟩ := trodAll_nil r2
  obtain rfl : args = #[v0, v1, v2] := by cases args; simp_all
  obtain ⟨rfl, rfl⟩ := trodVars_none hV
  have lt0 : ∀ x ∈ p0, x.block < W.heap.size := by obtain ⟨m, hm⟩ := h0; exact DataW.trod_lt m _ _ _ hm
  have k0 := h0
  have lt1 : ∀ x ∈ p1, x.block < W.heap.size := by obtain ⟨m, hm⟩ := h1; exact DataW.trod_lt m _ _ _ hm
  have k1 := h1
  have lt2 : ∀ x ∈ p2, x.block < W.heap.size := by obtain ⟨m, hm⟩ := h2; exact DataW.trod_lt m _ _ _ hm
  have k2 := h2
  obtain ⟨A, ca, x, rfl, hn0, hi0, hl0⟩ := open_items (hval 0 36 v0 rfl rfl) h0
  obtain ⟨B, cb, y, rfl, hn1, hi1, hl1⟩ := open_items (hval 1 36 v1 rfl rfl) h1
  obtain ⟨C, cc, z, rfl, hn2, hi2, hl2⟩ := open_items (hval 2 36 v2 rfl rfl) h2
  clear hA0 hval0
  refine (zsetGroup_any x y z A B C ca cb cc W ⟨hi0, hn0, hl0⟩ ⟨hi1, hn1, hl1⟩ ⟨hi2, hn2, hl2⟩).mono fun e W' ⟨he, bel⟩ => ?_
  subst he
  exact ⟨_, rfl, _, _, _, [], _, [], hW', trodAll_mk1 (shut_bool Try.underlying4 _),
    (trodAll_cons_mk (Below.trod laidAll (by kernel_rfl) (of_decide_eq_true (by kernel_rfl)) k0 bel lt0) (trodAll_cons_mk (Below.trod laidAll (by kernel_rfl) (of_decide_eq_true (by kernel_rfl)) k1 bel lt1) (trodAll_cons_mk (Below.trod laidAll (by kernel_rfl) (of_decide_eq_true (by kernel_rfl)) k2 bel lt2) trodAll_mk0))), rfl, bel.frame _, fun h => by cases h⟩

theorem zsetGroup_holds : Rows.ZsetGroupSaid :=
  OpenClaim.holds_of_wide 4 Try.f4 rfl rfl rfl rfl rfl rfl rfl ⟨rfl, rfl, rfl, rfl, rfl⟩ rfl rfl rfl rfl rfl (by kernel_rfl) Try.func4 (by kernel_rfl)
    (of_decide_eq_true (by kernel_rfl)) (by unfold Func.isWrapper; first | (rw [if_pos (by decide +kernel)]; kernel_rfl) | (rw [if_neg (by decide +kernel)]; exact ⟨rfl, rfl⟩))
    (fun os started H enc _ => zsetGroup_lifted os started H enc)

#print axioms zsetGroup_holds
end Go.Proofs.Ytjgefnipkaecgac
