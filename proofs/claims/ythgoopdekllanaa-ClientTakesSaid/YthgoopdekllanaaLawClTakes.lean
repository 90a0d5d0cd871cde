/- ClientTakes, walked. -/
import Derived.Test.YthgoopdekllanaaClI
import Derived.Test.YthgoopdekllanaaClF
import Derived.Test.YthgoopdekllanaaClL
import Derived.Test.YthgoopdekllanaaShX
import Derived.Deep.RegionHeldLaw
namespace Go.Proofs.Ythgoopdekllanaa
open Go.RowKit Go.Shelf
open SumM
attribute [local go_sem] Oper.semAt_some guard_undef
attribute [local go_sem ↓] nm_ldT nm_ldA nm_stT nm_ldC nm_stC nm_buT nm_buC
attribute [local go_sem ↓] zero_tab zero_cli
attribute [local go_sem] grd_tab grd_cli

theorem great12_any (ba tv : Int) (sa : Option Addr) (sn sc : Nat) (w : World) :
    Calls Try.prog 25 #[.agg #[.int .i64 ba, .int .i64 tv, .slice sa sn sc]] w fun e w' => e = .returned (.bool (decide ((40 : Int) < (sn : Int)))) ∧ Below w.heap.size w w' := by
  have bS := heap_alloc_new w (.cells #[.int .i64 ba, .int .i64 tv, .slice sa sn sc] 29)
  obtain ⟨q0, q1, q2⟩ := sh_cells _ _ _ _ _ bS
  have L := (Below.refl w.heap.size w).alloc (Nat.le_refl _) (.cells #[.int .i64 ba, .int .i64 tv, .slice sa sn sc] 29)
  go_enter Try.func25, Try.ntmps25
  go_wp2
  go_ret
  exact ⟨rfl, L⟩

/-- Rows that may be, laid over a table that may be, leave one that may be. -/
theorem ly_rgE {rs : List SR} (hr : ∀ r ∈ rs, rgE r.2 = true) : ∀ (T : Nat → Int), (∀ i, i < 16 → rgE (rowT T i) = true) → ∀ i, i < 16 → rgE (rowT (ly T rs) i) = true := by
  induction rs with
  | nil => exact fun T h => h
  | cons r rs ih =>
    intro T h
    unfold ly
    rw [List.foldl_cons]
    refine ih (fun x hx => hr x (List.mem_cons_of_mem _ hx)) _ ?_
    intro i hi
    split
    · by_cases hb : i = r.1.toNat
      · rw [hb, rowT_same]
        exact hr r (List.mem_cons_self ..)
      · rw [rowT_other _ _ hb]
        exact h i hi
    · exact h i hi
theorem rises_rgE : ∀ {rs : List SR} {l : Int}, rises l rs = true → ∀ r ∈ rs, rgE r.2 = true
  | [], _, _, _, h => absurd h (by simp)
  | r :: rs, l, h, x, hx => by
    simp only [rises, Bool.and_eq_true, decide_eq_true_eq] at h
    rcases List.mem_cons.1 hx with rfl | hx
    · exact h.1.2
    · exact rises_rgE (rs := rs) h.2 x hx
theorem rowT_ver (T : Nat → Int) (x : Int) (i : Nat) : rowT (upd T 0 x) i = rowT T i := by
  unfold rowT upd
  simp only [Prod.mk.injEq]
  refine ⟨?_, ?_, ?_, ?_⟩ <;> rw [if_neg (by omega)]
theorem ly_right {T : Nat → Int} {ba tv : Int} {rs : List SR} (hT : rgT T = true) (hs : shOk ba tv rs = true) : rgT (upd (ly T rs) 0 tv) = true := by
  have h1 := shOk_iff hs
  rw [rgT_iff]
  refine ⟨by simpa [upd] using h1.1, fun i hi => ?_⟩
  rw [rowT_ver]
  exact ly_rgE (rises_rgE h1.2.2.2) T (rgT_iff.1 hT).2 i hi
set_option maxRecDepth 100000 in
theorem rg_newT : rgT newT = true := by kernel_rfl

/-- While the law lays the rows over, one by one. -/
structure TkJ (X : Nat → Int) (ba tv : Int) (sa : Option Addr) (sn sc : Nat) (Y : Nat → Int) (w : World) (m bo : Nat) (rs : List SR) (W : World) : Prop where
  lo : Below w.heap.size w W
  tb : NB m 26 65 (ly X rs) W
  sb : W.heap[w.heap.size + 1]? = some (.cells #[.int .i64 ba, .int .i64 tv, .slice sa sn sc] 29 (0, 0))
  ob : CB bo true Y W

set_option maxRecDepth 100000 in
set_option maxHeartbeats 16000000 in
theorem clTakes_t (T : Nat → Int) (ba tv : Int) (sa : Option Addr) (sn sc : Nat) (rs : List SR) (w : World) (h0 : IsSh w sa sn sc rs) :
    Calls Try.prog 6 #[cliV true T, .agg #[.int .i64 ba, .int .i64 tv, .slice sa sn sc]] w fun e w' => e = .returned (.bool true) ∧ Below w.heap.size w w' := by
  have WKS := Lib.hid (fun W => wakes12_any W)
  have hsr := h0.row
  have hl := h0.hl
  clear h0
  have bC := blkN (heap_alloc_new w (.cells (cliL true T).toArray 45)) (.cells #[.int .i64 ba, .int .i64 tv, .slice sa sn sc] 29)
  have bS := newN (w.alloc (.cells (cliL true T).toArray 45)) (.cells #[.int .i64 ba, .int .i64 tv, .slice sa sn sc] 29) (w.heap.size + 1) (by simp)
  have L0 := ((Below.refl w.heap.size w).alloc (Nat.le_refl _) (.cells (cliL true T).toArray 45)).alloc (by simp) (.cells #[.int .i64 ba, .int .i64 tv, .slice sa sn sc] 29)
  go_enter Try.func6, Try.ntmps6
  go_upto_region 1 with fail
  generalize (w.alloc (.cells (cliL true T).toArray 45)).alloc (.cells #[.int .i64 ba, .int .i64 tv, .slice sa sn sc] 29) = W0 at *
  obtain ⟨q0, q1, q2⟩ := sh_cells _ _ _ _ _ bS
  obtain ⟨g0, hg0⟩ : ∃ g, decide ((40 : Int) < (sn : Int)) = g := ⟨_, rfl⟩
  have KG := Lib.hid (hg0 ▸ great12_any ba tv sa sn sc W0)
  go_wp2_with fail
  refine KG.out.mono ?_
  rintro e w0 ⟨rfl, m0⟩
  replace bC := bb bC m0
  replace bS := bb bS m0
  replace L0 := L0.trans (m0.mono L0.size)
  clear q0 q1 q2 m0 KG
  cases g0
  rotate_left
  · have HX := Lib.hid L0
    clear bC bS L0 hg0
    go_wp2_with (go_at_call 26; (with_reducible refine (WKS.out _).mono ?_); rintro e w9 ⟨rfl, m9⟩)
    go_ret
    exact ⟨rfl, HX.out.trans (m9.mono HX.out.size)⟩
  have hs : sn ≤ 4000000 := by
    have := of_decide_eq_false hg0
    omega
  clear hg0
  obtain ⟨g, hg⟩ : ∃ g, rgC true T = g := ⟨_, rfl⟩
  obtain ⟨g', hg'⟩ : ∃ g', shOk ba tv rs = g' := ⟨_, rfl⟩
  have HT := Lib.hid (show tkR true T ba tv rs = if (g && g') = true then (if hasC true T < ba then (true, T, false, 120) else if tv ≤ hasC true T then (true, T, false, 0) else (true, wiT true T tv rs, true, 0)) else (true, T, false, 2) by unfold tkR; rw [hg, hg'])
  have KR := Lib.hid (hg ▸ r12Right_any true T w0)
  have l0 := ld_cli bC
  go_wp2_with fail
  refine KR.out.mono ?_
  rintro e w1 ⟨rfl, m1⟩
  replace bC := bb bC m1
  replace bS := bb bS m1
  replace L0 := L0.trans (m1.mono L0.size)
  clear l0 m1 KR
  cases g
  · have HX := Lib.hid L0
    clear bC bS L0
    go_wp2_with (go_at_call 26; (with_reducible refine (WKS.out _).mono ?_); rintro e w9 ⟨rfl, m9⟩)
    go_ret
    exact ⟨rfl, HX.out.trans (m9.mono HX.out.size)⟩
  obtain ⟨q0, q1, q2⟩ := sh_cells _ _ _ _ _ bS
  have KS := Lib.hid (hg' ▸ r11Right_any ba tv sa sn sc rs hl hs w1 ((hsr.below L0).more L0.size))
  go_wp2_with fail
  refine KS.out.mono ?_
  rintro e w2 ⟨rfl, m2⟩
  replace bC := bb bC m2
  replace bS := bb bS m2
  replace L0 := L0.trans (m2.mono L0.size)
  clear q0 q1 q2 m2 KS
  cases g'
  · have HX := Lib.hid L0
    clear bC bS L0
    go_wp2_with (go_at_call 26; (with_reducible refine (WKS.out _).mono ?_); rintro e w9 ⟨rfl, m9⟩)
    go_ret
    exact ⟨rfl, HX.out.trans (m9.mono HX.out.size)⟩
  replace HT := Lib.hid (show tkR true T ba tv rs = if hasC true T < ba then (true, T, false, 120) else if tv ≤ hasC true T then (true, T, false, 0) else (true, wiT true T tv rs, true, 0) from HT.out)
  obtain ⟨v, hv⟩ : ∃ v, hasC true T = v := ⟨_, rfl⟩
  have KH := Lib.hid (fun W => hv ▸ cHas_any true T W)
  rw [hv] at HT
  have HG := Lib.hid (And.intro (rises_in (by omega) (shOk_iff hg').2.2.2) (And.intro hl (And.intro hs (ly_right (T := T) hg hg'))))
  have HSR := Lib.hid hsr
  have KT := Lib.hid (cTake_any true T ba tv sa sn sc rs hl hs w2 ((hsr.below L0).more L0.size))
  clear hv hg hg' hsr hl
  have l0 := ld_cli bC
  obtain ⟨q0, q1, q2⟩ := sh_cells _ _ _ _ _ bS
  by_cases hb : v < ba
  · rw [HT.out, if_pos hb] at KT
    go_wp2_with fail
    refine KT.out.mono ?_
    rintro e w3 ⟨rfl, m3⟩
    have hd : CB w3.heap.size false zeroT (w3.alloc (.cells (cliL false zeroT).toArray 45)) := heap_alloc_new w3 _
    have s9 := st_cli hd true T
    obtain ⟨bO, k2⟩ := boxC_new w3 true T
    replace bC := bb (bb bC m3) k2
    replace bS := bb (bb bS m3) k2
    replace L0 := L0.trans ((m3.trans (k2.mono m3.size)).mono L0.size)
    clear hd m3 k2 KT
    go_upto_region 4 with fail
    clear s9 l0 q0 q1 q2
    generalize (w3.alloc (.cells (cliL false zeroT).toArray 45)).setCells w3.heap.size 0 (cliL true T) = W3 at *
    generalize w3.heap.size = bo at *
    have l0 := ld_cli bC
    go_wp2_with fail
    refine (KH.out W3).mono ?_
    rintro e w4 ⟨rfl, m4⟩
    replace bC := bb bC m4
    replace bS := bb bS m4
    replace bO := bb bO m4
    replace L0 := L0.trans (m4.mono L0.size)
    clear l0 m4
    obtain ⟨q0, q1, q2⟩ := sh_cells _ _ _ _ _ bS
    have p0 : decide (v < ba) = true := decide_eq_true hb
    have l1 := ld_cli bO
    have l2 := ld_cli bC
    have hEq : ∀ W, (Op.equalIn 10000 45 (cliV true T) (cliV true T)).run Try.prog W = .ok true W := fun W => by
      have h := run_eqC true T true T W
      rwa [eqC_refl] at h
    have HX := Lib.hid L0
    clear bC bS bO L0
    go_wp2_with (go_at_call 26; (with_reducible refine (WKS.out _).mono ?_); rintro e w9 ⟨rfl, m9⟩)
    go_ret
    exact ⟨rfl, HX.out.trans (m9.mono HX.out.size)⟩
  replace HT := Lib.hid (show tkR true T ba tv rs = if tv ≤ v then (true, T, false, 0) else (true, wiT true T tv rs, true, 0) by rw [HT.out, if_neg hb])
  by_cases hb2 : tv ≤ v
  · rw [HT.out, if_pos hb2] at KT
    go_wp2_with fail
    refine KT.out.mono ?_
    rintro e w3 ⟨rfl, m3⟩
    have hd : CB w3.heap.size false zeroT (w3.alloc (.cells (cliL false zeroT).toArray 45)) := heap_alloc_new w3 _
    have s9 := st_cli hd true T
    obtain ⟨bO, k2⟩ := boxC_new w3 true T
    replace bC := bb (bb bC m3) k2
    replace bS := bb (bb bS m3) k2
    replace L0 := L0.trans ((m3.trans (k2.mono m3.size)).mono L0.size)
    clear hd m3 k2 KT
    go_upto_region 4 with fail
    clear s9 l0 q0 q1 q2
    generalize (w3.alloc (.cells (cliL false zeroT).toArray 45)).setCells w3.heap.size 0 (cliL true T) = W3 at *
    generalize w3.heap.size = bo at *
    have l0 := ld_cli bC
    go_wp2_with fail
    refine (KH.out W3).mono ?_
    rintro e w4 ⟨rfl, m4⟩
    replace bC := bb bC m4
    replace bS := bb bS m4
    replace bO := bb bO m4
    replace L0 := L0.trans (m4.mono L0.size)
    clear l0 m4
    obtain ⟨q0, q1, q2⟩ := sh_cells _ _ _ _ _ bS
    have p0 : decide (v < ba) = false := decide_eq_false (by omega)
    have p1 : decide (v < tv) = false := decide_eq_false (by omega)
    have l1 := ld_cli bO
    have l2 := ld_cli bC
    have hEq : ∀ W, (Op.equalIn 10000 45 (cliV true T) (cliV true T)).run Try.prog W = .ok true W := fun W => by
      have h := run_eqC true T true T W
      rwa [eqC_refl] at h
    have HX := Lib.hid L0
    clear bC bS bO L0
    go_wp2_with (go_at_call 26; (with_reducible refine (WKS.out _).mono ?_); rintro e w9 ⟨rfl, m9⟩)
    go_ret
    exact ⟨rfl, HX.out.trans (m9.mono HX.out.size)⟩
  rw [HT.out, if_neg hb2] at KT
  replace KT := Lib.hid (show Calls Try.prog 27 #[cliV true T, .agg #[.int .i64 ba, .int .i64 tv, .slice sa sn sc]] w2 (CliRet (true, upd (ly T rs) 0 tv, true, 0) w2) from KT.out)
  obtain ⟨X, hX⟩ : ∃ X, upd (ly T rs) 0 tv = X := ⟨_, rfl⟩
  rw [hX] at KT
  have KX := Lib.hid (fun W => (show rgC true X = true from hX ▸ HG.out.2.2.2) ▸ cRight_any true X W)
  have HXX := Lib.hid hX
  clear hX
  go_wp2_with fail
  refine KT.out.mono ?_
  rintro e w3 ⟨rfl, m3⟩
  have hd : CB w3.heap.size false zeroT (w3.alloc (.cells (cliL false zeroT).toArray 45)) := heap_alloc_new w3 _
  have s9 := st_cli hd true X
  obtain ⟨bO, k2⟩ := boxC_new w3 true X
  replace bC := bb (bb bC m3) k2
  replace bS := bb (bb bS m3) k2
  replace L0 := L0.trans ((m3.trans (k2.mono m3.size)).mono L0.size)
  clear hd m3 k2 KT
  go_upto_region 4 with fail
  clear s9 l0 q0 q1 q2
  generalize (w3.alloc (.cells (cliL false zeroT).toArray 45)).setCells w3.heap.size 0 (cliL true X) = W3 at *
  generalize w3.heap.size = bo at *
  have l0 := ld_cli bC
  go_wp2_with fail
  refine (KH.out W3).mono ?_
  rintro e w4 ⟨rfl, m4⟩
  replace bC := bb bC m4
  replace bS := bb bS m4
  replace bO := bb bO m4
  replace L0 := L0.trans (m4.mono L0.size)
  clear l0 m4
  obtain ⟨q0, q1, q2⟩ := sh_cells _ _ _ _ _ bS
  have p0 : decide (v < ba) = false := decide_eq_false (by omega)
  have p1 : decide (v < tv) = true := decide_eq_true (by omega)
  go_upto_region 9 with fail
  clear p0 p1 q0 q1 q2
  have l0 := ld_ctab bC
  have s0 := st_new w4 T
  obtain ⟨bT, L1⟩ := boxT_new w4 T
  have hh := cb_has (bb bC L1)
  have hm : w.heap.size + 2 ≤ w4.heap.size := by have := nb_lt2 bS; omega
  have hbo : bo < w4.heap.size := nb_lt2 bO
  replace bS := bb bS L1
  replace bO := bb bO L1
  replace L0 := L0.trans (L1.mono L0.size)
  clear bC L1
  go_upto_region 10 with fail
  clear l0 s0
  generalize (w4.alloc (.cells (numL 65 zeroT).toArray 26)).setCells w4.heap.size 0 (numL 65 T) = W1 at *
  generalize w4.heap.size = m at *
  have HI := Lib.hid (show TkJ T ba tv sa sn sc X w m bo (rs.take 0) W1 from ⟨L0, bT, bS, bO⟩)
  have HM := Lib.hid (And.intro hm hbo)
  clear bT bS bO L0 hm hbo
  go_wp2
  clear hh
  go_loopw [10, 11] (fun i _ wr => ∃ k : Nat, k ≤ sn ∧ i = .int .i64 (k : Nat) ∧ TkJ T ba tv sa sn sc X w m bo (rs.take k) wr) (fun i _ _ => sn - (intOf i).toNat)
  case atStart => exact ⟨0, by omega, rfl, HI.out⟩
  case round =>
    obtain ⟨k, hk, rfl, hI⟩ := hrel
    clear HI
    by_cases hlt : k < sn
    · have hk0 : (0 : Int) ≤ (k : Int) := by omega
      have hk1 : (k : Int) < (sn : Int) := by omega
      have hkl : k < rs.length := by rw [HG.out.2.1]; exact hlt
      have hSR := HSR.out.below hI.lo
      obtain ⟨bs, off, rfl, hbs⟩ := sr_addr hSR (by omega)
      obtain ⟨c0, c1, c2, c3, c4⟩ := sr_at hSR k hkl
      have hr := HG.out.1 (rs[k]?.getD sr0) (by rw [List.getElem?_eq_getElem hkl]; exact List.getElem_mem hkl)
      have hst := ly_step (X := T) hkl
      obtain ⟨q0, q1, q2⟩ := sh_cells _ _ _ _ _ hI.sb
      generalize rs[k]?.getD sr0 = r at *
      obtain ⟨z, u0, u1, u2, u3⟩ := r
      obtain ⟨b, rfl⟩ : ∃ b : Nat, z = (b : Int) := ⟨z.toNat, by simp only at hr; omega⟩
      have hb16 : b < 16 := by simp only at hr; omega
      have hb1 : (b : Int) < 16 := by omega
      simp only [Int.toNat_natCast] at hst
      simp only at c0 c1 c2 c3 c4
      have q := rng_row hI.tb b hb16
      obtain ⟨t, ht⟩ : ∃ t, rowT (ly T (rs.take k)) b = t := ⟨_, rfl⟩
      rw [ht] at q
      have hnw : nwR (ly T (rs.take k)) ((b : Int), u0, u1, u2, u3) = decide (t.2.2.1 < u2) := by rw [← ht]; rfl
      rw [hnw] at hst
      obtain ⟨t0, t1, t2, t3⟩ := t
      simp only at hst
      clear ht hnw hr
      obtain ⟨x0, x1, x2, x3⟩ := ent_of_range _ _ _ _ q
      have hft := nb_frozen hI.tb
      have HI2 := Lib.hid hI
      have HST := Lib.hid hst
      clear hI q hst hSR hbs
      go_upto_region 16 with fail
      go_quiet (fail)
      obtain ⟨p, hp⟩ : ∃ p, decide (t2 < u2) = p := ⟨_, rfl⟩
      replace HST := Lib.hid (show ly T (rs.take (k + 1)) = if p = true then setR (ly T (rs.take k)) b (u0, u1, u2, u3) else ly T (rs.take k) by rw [HST.out, hp])
      rw [hp]
      clear hp
      have hI : TkJ T ba tv (some ⟨bs, off, none⟩) sn sc X w m bo (rs.take k) (wr.drewN nq) := ⟨below_tb HI2.out.lo nq, HI2.out.tb, HI2.out.sb, HI2.out.ob⟩
      have cc : ∀ a, (wr.drewN nq).cell? a = wr.cell? a := fun _ => rfl
      rw [← cc] at c0 c1 c2 c3 c4 q0 q1 q2 x0 x1 x2 x3
      have f0 : (wr.drewN nq).frozen? ⟨m, 1 + b * 4, none⟩ = false := hft _
      have f1 : (wr.drewN nq).frozen? ⟨m, 1 + b * 4 + 1, none⟩ = false := hft _
      have f2 : (wr.drewN nq).frozen? ⟨m, 1 + b * 4 + 2, none⟩ = false := hft _
      have f3 : (wr.drewN nq).frozen? ⟨m, 1 + b * 4 + 3, none⟩ = false := hft _
      clear HI2 hft cc
      generalize wr.drewN nq = W2 at *
      cases p
      · have HIX := Lib.hid (show TkJ T ba tv (some ⟨bs, off, none⟩) sn sc X w m bo (rs.take (k + 1)) W2 from ⟨hI.lo, by rw [HST.out]; exact hI.tb, hI.sb, hI.ob⟩)
        clear hI c0 c1 c2 c3 c4 q0 q1 q2 x0 x1 x2 x3 f0 f1 f2 f3
        go_wp2
        go_roundw
        case rel => exact ⟨k + 1, by omega, by go_num, HIX.out⟩
        case measure => simp [intOf]; omega
      · obtain ⟨hm3, hbo⟩ := HM.out
        have HIX := Lib.hid (show TkJ T ba tv (some ⟨bs, off, none⟩) sn sc X w m bo (rs.take (k + 1)) (W2.setCells m (1 + b * 4) [.int .i64 u0, .int .i64 u1, .int .i64 u2, .int .i64 u3]) from
          ⟨below_setCells m (by omega) _ _ w _ hI.lo, by rw [HST.out]; exact nb_row hI.tb b (u0, u1, u2, u3), (nb_other (by omega) _ _ _).trans hI.sb, (nb_other (by omega) _ _ _).trans hI.ob⟩)
        clear hI hm3 hbo
        go_wp2
        go_roundw
        case rel => exact ⟨k + 1, by omega, by go_num, HIX.out⟩
        case measure => simp [intOf]; omega
    · obtain rfl : k = sn := by omega
      rw [show rs.take k = rs from List.take_of_length_le (by rw [HG.out.2.1]; exact Nat.le_refl _)] at hI
      obtain ⟨hm3, hbo⟩ := HM.out
      obtain ⟨q0, q1, q2⟩ := sh_cells _ _ _ _ _ hI.sb
      have c0 := nb_cell hI.tb (o := 0) (by omega)
      have g0 := nb_frozen hI.tb 0
      have HI2 := Lib.hid hI
      have HM3 := Lib.hid hm3
      clear hI hm3
      go_upto_region 19 with fail
      have hm3 := HM3.out
      have hT6 : NB m 26 65 X (wr.setCell ⟨m, 0, none⟩ (.int .i64 tv)) := HXX.out ▸ nb_put HI2.out.tb 0 tv
      have hO6 : CB bo true X (wr.setCell ⟨m, 0, none⟩ (.int .i64 tv)) := (Below.heap_setCell wr ⟨m, 0, none⟩ (.int .i64 tv) bo (by show bo ≠ m; omega)).trans HI2.out.ob
      have hB6 : Below w.heap.size w (wr.setCell ⟨m, 0, none⟩ (.int .i64 tv)) := HI2.out.lo.setCell (p := ⟨m, 0, none⟩) (by show w.heap.size ≤ m; omega) (.int .i64 tv)
      clear HI2 c0 g0 q0 q1 q2 hm3 hbo HM HM3
      generalize wr.setCell ⟨m, 0, none⟩ (.int .i64 tv) = W6 at *
      have l6 := ld_tab hT6
      have l7 := ld_ctab hO6
      have l8 := ld_cli hO6
      have h8 := cb_has hO6
      have hEq : ∀ W, (Op.equalIn 10000 26 (tabV X) (tabV X)).run Try.prog W = .ok true W := fun W => by
        have h := run_eqT X X W
        rwa [eqN_refl] at h
      have HB6 := Lib.hid hB6
      clear hT6 hO6 hB6
      go_wp2_with fail
      refine (KX.out W6).mono ?_
      rintro e w7 ⟨rfl, m7⟩
      have HX := Lib.hid (HB6.out.trans (m7.mono HB6.out.size))
      clear l6 l7 l8 h8 m7 hEq
      go_wp2_with (go_at_call 26; (with_reducible refine (WKS.out _).mono ?_); rintro e w9 ⟨rfl, m9⟩)
      go_ret
      exact ⟨rfl, HX.out.trans (m9.mono HX.out.size)⟩

set_option maxRecDepth 100000 in
set_option maxHeartbeats 16000000 in
theorem clTakes_f (T : Nat → Int) (ba tv : Int) (sa : Option Addr) (sn sc : Nat) (rs : List SR) (w : World) (h0 : IsSh w sa sn sc rs) :
    Calls Try.prog 6 #[cliV false T, .agg #[.int .i64 ba, .int .i64 tv, .slice sa sn sc]] w fun e w' => e = .returned (.bool true) ∧ Below w.heap.size w w' := by
  have WKS := Lib.hid (fun W => wakes12_any W)
  have hsr := h0.row
  have hl := h0.hl
  clear h0
  have bC := blkN (heap_alloc_new w (.cells (cliL false T).toArray 45)) (.cells #[.int .i64 ba, .int .i64 tv, .slice sa sn sc] 29)
  have bS := newN (w.alloc (.cells (cliL false T).toArray 45)) (.cells #[.int .i64 ba, .int .i64 tv, .slice sa sn sc] 29) (w.heap.size + 1) (by simp)
  have L0 := ((Below.refl w.heap.size w).alloc (Nat.le_refl _) (.cells (cliL false T).toArray 45)).alloc (by simp) (.cells #[.int .i64 ba, .int .i64 tv, .slice sa sn sc] 29)
  go_enter Try.func6, Try.ntmps6
  go_upto_region 1 with fail
  generalize (w.alloc (.cells (cliL false T).toArray 45)).alloc (.cells #[.int .i64 ba, .int .i64 tv, .slice sa sn sc] 29) = W0 at *
  obtain ⟨q0, q1, q2⟩ := sh_cells _ _ _ _ _ bS
  obtain ⟨g0, hg0⟩ : ∃ g, decide ((40 : Int) < (sn : Int)) = g := ⟨_, rfl⟩
  have KG := Lib.hid (hg0 ▸ great12_any ba tv sa sn sc W0)
  go_wp2_with fail
  refine KG.out.mono ?_
  rintro e w0 ⟨rfl, m0⟩
  replace bC := bb bC m0
  replace bS := bb bS m0
  replace L0 := L0.trans (m0.mono L0.size)
  clear q0 q1 q2 m0 KG
  cases g0
  rotate_left
  · have HX := Lib.hid L0
    clear bC bS L0 hg0
    go_wp2_with (go_at_call 26; (with_reducible refine (WKS.out _).mono ?_); rintro e w9 ⟨rfl, m9⟩)
    go_ret
    exact ⟨rfl, HX.out.trans (m9.mono HX.out.size)⟩
  have hs : sn ≤ 4000000 := by
    have := of_decide_eq_false hg0
    omega
  clear hg0
  obtain ⟨g, hg⟩ : ∃ g, rgC false T = g := ⟨_, rfl⟩
  obtain ⟨g', hg'⟩ : ∃ g', shOk ba tv rs = g' := ⟨_, rfl⟩
  have HT := Lib.hid (show tkR false T ba tv rs = if (g && g') = true then (if hasC false T < ba then (false, T, false, 120) else if tv ≤ hasC false T then (false, T, false, 0) else (true, wiT false T tv rs, true, 0)) else (false, T, false, 2) by unfold tkR; rw [hg, hg'])
  have KR := Lib.hid (hg ▸ r12Right_any false T w0)
  have l0 := ld_cli bC
  go_wp2_with fail
  refine KR.out.mono ?_
  rintro e w1 ⟨rfl, m1⟩
  replace bC := bb bC m1
  replace bS := bb bS m1
  replace L0 := L0.trans (m1.mono L0.size)
  clear l0 m1 KR
  cases g
  · have HX := Lib.hid L0
    clear bC bS L0
    go_wp2_with (go_at_call 26; (with_reducible refine (WKS.out _).mono ?_); rintro e w9 ⟨rfl, m9⟩)
    go_ret
    exact ⟨rfl, HX.out.trans (m9.mono HX.out.size)⟩
  obtain ⟨q0, q1, q2⟩ := sh_cells _ _ _ _ _ bS
  have KS := Lib.hid (hg' ▸ r11Right_any ba tv sa sn sc rs hl hs w1 ((hsr.below L0).more L0.size))
  go_wp2_with fail
  refine KS.out.mono ?_
  rintro e w2 ⟨rfl, m2⟩
  replace bC := bb bC m2
  replace bS := bb bS m2
  replace L0 := L0.trans (m2.mono L0.size)
  clear q0 q1 q2 m2 KS
  cases g'
  · have HX := Lib.hid L0
    clear bC bS L0
    go_wp2_with (go_at_call 26; (with_reducible refine (WKS.out _).mono ?_); rintro e w9 ⟨rfl, m9⟩)
    go_ret
    exact ⟨rfl, HX.out.trans (m9.mono HX.out.size)⟩
  replace HT := Lib.hid (show tkR false T ba tv rs = if hasC false T < ba then (false, T, false, 120) else if tv ≤ hasC false T then (false, T, false, 0) else (true, wiT false T tv rs, true, 0) from HT.out)
  obtain ⟨v, hv⟩ : ∃ v, hasC false T = v := ⟨_, rfl⟩
  have KH := Lib.hid (fun W => hv ▸ cHas_any false T W)
  rw [hv] at HT
  have HG := Lib.hid (And.intro (rises_in (by omega) (shOk_iff hg').2.2.2) (And.intro hl (And.intro hs (ly_right (T := newT) rg_newT hg'))))
  have HSR := Lib.hid hsr
  have KT := Lib.hid (cTake_any false T ba tv sa sn sc rs hl hs w2 ((hsr.below L0).more L0.size))
  clear hv hg hg' hsr hl
  have l0 := ld_cli bC
  obtain ⟨q0, q1, q2⟩ := sh_cells _ _ _ _ _ bS
  by_cases hb : v < ba
  · rw [HT.out, if_pos hb] at KT
    go_wp2_with fail
    refine KT.out.mono ?_
    rintro e w3 ⟨rfl, m3⟩
    have hd : CB w3.heap.size false zeroT (w3.alloc (.cells (cliL false zeroT).toArray 45)) := heap_alloc_new w3 _
    have s9 := st_cli hd false T
    obtain ⟨bO, k2⟩ := boxC_new w3 false T
    replace bC := bb (bb bC m3) k2
    replace bS := bb (bb bS m3) k2
    replace L0 := L0.trans ((m3.trans (k2.mono m3.size)).mono L0.size)
    clear hd m3 k2 KT
    go_upto_region 4 with fail
    clear s9 l0 q0 q1 q2
    generalize (w3.alloc (.cells (cliL false zeroT).toArray 45)).setCells w3.heap.size 0 (cliL false T) = W3 at *
    generalize w3.heap.size = bo at *
    have l0 := ld_cli bC
    go_wp2_with fail
    refine (KH.out W3).mono ?_
    rintro e w4 ⟨rfl, m4⟩
    replace bC := bb bC m4
    replace bS := bb bS m4
    replace bO := bb bO m4
    replace L0 := L0.trans (m4.mono L0.size)
    clear l0 m4
    obtain ⟨q0, q1, q2⟩ := sh_cells _ _ _ _ _ bS
    have p0 : decide (v < ba) = true := decide_eq_true hb
    have l1 := ld_cli bO
    have l2 := ld_cli bC
    have hEq : ∀ W, (Op.equalIn 10000 45 (cliV false T) (cliV false T)).run Try.prog W = .ok true W := fun W => by
      have h := run_eqC false T false T W
      rwa [eqC_refl] at h
    have HX := Lib.hid L0
    clear bC bS bO L0
    go_wp2_with (go_at_call 26; (with_reducible refine (WKS.out _).mono ?_); rintro e w9 ⟨rfl, m9⟩)
    go_ret
    exact ⟨rfl, HX.out.trans (m9.mono HX.out.size)⟩
  replace HT := Lib.hid (show tkR false T ba tv rs = if tv ≤ v then (false, T, false, 0) else (true, wiT false T tv rs, true, 0) by rw [HT.out, if_neg hb])
  by_cases hb2 : tv ≤ v
  · rw [HT.out, if_pos hb2] at KT
    go_wp2_with fail
    refine KT.out.mono ?_
    rintro e w3 ⟨rfl, m3⟩
    have hd : CB w3.heap.size false zeroT (w3.alloc (.cells (cliL false zeroT).toArray 45)) := heap_alloc_new w3 _
    have s9 := st_cli hd false T
    obtain ⟨bO, k2⟩ := boxC_new w3 false T
    replace bC := bb (bb bC m3) k2
    replace bS := bb (bb bS m3) k2
    replace L0 := L0.trans ((m3.trans (k2.mono m3.size)).mono L0.size)
    clear hd m3 k2 KT
    go_upto_region 4 with fail
    clear s9 l0 q0 q1 q2
    generalize (w3.alloc (.cells (cliL false zeroT).toArray 45)).setCells w3.heap.size 0 (cliL false T) = W3 at *
    generalize w3.heap.size = bo at *
    have l0 := ld_cli bC
    go_wp2_with fail
    refine (KH.out W3).mono ?_
    rintro e w4 ⟨rfl, m4⟩
    replace bC := bb bC m4
    replace bS := bb bS m4
    replace bO := bb bO m4
    replace L0 := L0.trans (m4.mono L0.size)
    clear l0 m4
    obtain ⟨q0, q1, q2⟩ := sh_cells _ _ _ _ _ bS
    have p0 : decide (v < ba) = false := decide_eq_false (by omega)
    have p1 : decide (v < tv) = false := decide_eq_false (by omega)
    have l1 := ld_cli bO
    have l2 := ld_cli bC
    have hEq : ∀ W, (Op.equalIn 10000 45 (cliV false T) (cliV false T)).run Try.prog W = .ok true W := fun W => by
      have h := run_eqC false T false T W
      rwa [eqC_refl] at h
    have HX := Lib.hid L0
    clear bC bS bO L0
    go_wp2_with (go_at_call 26; (with_reducible refine (WKS.out _).mono ?_); rintro e w9 ⟨rfl, m9⟩)
    go_ret
    exact ⟨rfl, HX.out.trans (m9.mono HX.out.size)⟩
  rw [HT.out, if_neg hb2] at KT
  replace KT := Lib.hid (show Calls Try.prog 27 #[cliV false T, .agg #[.int .i64 ba, .int .i64 tv, .slice sa sn sc]] w2 (CliRet (true, upd (ly newT rs) 0 tv, true, 0) w2) from KT.out)
  obtain ⟨X, hX⟩ : ∃ X, upd (ly newT rs) 0 tv = X := ⟨_, rfl⟩
  rw [hX] at KT
  have KX := Lib.hid (fun W => (show rgC true X = true from hX ▸ HG.out.2.2.2) ▸ cRight_any true X W)
  have HXX := Lib.hid hX
  clear hX
  go_wp2_with fail
  refine KT.out.mono ?_
  rintro e w3 ⟨rfl, m3⟩
  have hd : CB w3.heap.size false zeroT (w3.alloc (.cells (cliL false zeroT).toArray 45)) := heap_alloc_new w3 _
  have s9 := st_cli hd true X
  obtain ⟨bO, k2⟩ := boxC_new w3 true X
  replace bC := bb (bb bC m3) k2
  replace bS := bb (bb bS m3) k2
  replace L0 := L0.trans ((m3.trans (k2.mono m3.size)).mono L0.size)
  clear hd m3 k2 KT
  go_upto_region 4 with fail
  clear s9 l0 q0 q1 q2
  generalize (w3.alloc (.cells (cliL false zeroT).toArray 45)).setCells w3.heap.size 0 (cliL true X) = W3 at *
  generalize w3.heap.size = bo at *
  have l0 := ld_cli bC
  go_wp2_with fail
  refine (KH.out W3).mono ?_
  rintro e w4 ⟨rfl, m4⟩
  replace bC := bb bC m4
  replace bS := bb bS m4
  replace bO := bb bO m4
  replace L0 := L0.trans (m4.mono L0.size)
  clear l0 m4
  obtain ⟨q0, q1, q2⟩ := sh_cells _ _ _ _ _ bS
  have p0 : decide (v < ba) = false := decide_eq_false (by omega)
  have p1 : decide (v < tv) = true := decide_eq_true (by omega)
  go_upto_region 9 with fail
  clear p0 p1 q0 q1 q2
  have l0 := ld_ctab bC
  have s0 := st_new w4 T
  obtain ⟨bT, L1⟩ := boxT_new w4 T
  have hh := cb_has (bb bC L1)
  have hm : w.heap.size + 2 ≤ w4.heap.size := by have := nb_lt2 bS; omega
  have hbo : bo < w4.heap.size := nb_lt2 bO
  replace bS := bb bS L1
  replace bO := bb bO L1
  replace L0 := L0.trans (L1.mono L0.size)
  clear bC L1
  go_upto_region 10 with fail
  clear l0 s0
  generalize (w4.alloc (.cells (numL 65 zeroT).toArray 26)).setCells w4.heap.size 0 (numL 65 T) = W1 at *
  generalize w4.heap.size = m at *
  go_wp2_with fail
  refine (r10New_any W1).mono ?_
  rintro e w5 ⟨rfl, m5⟩
  have LL2 := L0.trans (m5.mono L0.size)
  have bT2 := bb bT m5
  have bS2 := bb bS m5
  have bO2 := bb bO m5
  have s2 := st_tab bT2 newT
  have HA := Lib.hid (And.intro (nb_full bT2 newT) (And.intro ((nb_other (b := m) (k := w.heap.size + 1) (by omega) (numL 65 newT) 0 w5).trans bS2) (And.intro ((nb_other (b := m) (k := bo) (by omega) (numL 65 newT) 0 w5).trans bO2) (below_setCells m (by omega) (numL 65 newT) 0 w _ LL2))))
  clear bT bS bO L0 bT2 bS2 bO2 LL2 m5 hh
  go_upto_region 12 with fail
  clear s2
  obtain ⟨bT, bS, bO, L0⟩ := HA.out
  clear HA
  generalize w5.setCells m 0 (numL 65 newT) = W1 at *
  have HI := Lib.hid (show TkJ newT ba tv sa sn sc X w m bo (rs.take 0) W1 from ⟨L0, bT, bS, bO⟩)
  have HM := Lib.hid (And.intro hm hbo)
  clear bT bS bO L0 hm hbo
  go_wp2
  skip
  go_loopw [10, 11] (fun i _ wr => ∃ k : Nat, k ≤ sn ∧ i = .int .i64 (k : Nat) ∧ TkJ newT ba tv sa sn sc X w m bo (rs.take k) wr) (fun i _ _ => sn - (intOf i).toNat)
  case atStart => exact ⟨0, by omega, rfl, HI.out⟩
  case round =>
    obtain ⟨k, hk, rfl, hI⟩ := hrel
    clear HI
    by_cases hlt : k < sn
    · have hk0 : (0 : Int) ≤ (k : Int) := by omega
      have hk1 : (k : Int) < (sn : Int) := by omega
      have hkl : k < rs.length := by rw [HG.out.2.1]; exact hlt
      have hSR := HSR.out.below hI.lo
      obtain ⟨bs, off, rfl, hbs⟩ := sr_addr hSR (by omega)
      obtain ⟨c0, c1, c2, c3, c4⟩ := sr_at hSR k hkl
      have hr := HG.out.1 (rs[k]?.getD sr0) (by rw [List.getElem?_eq_getElem hkl]; exact List.getElem_mem hkl)
      have hst := ly_step (X := newT) hkl
      obtain ⟨q0, q1, q2⟩ := sh_cells _ _ _ _ _ hI.sb
      generalize rs[k]?.getD sr0 = r at *
      obtain ⟨z, u0, u1, u2, u3⟩ := r
      obtain ⟨b, rfl⟩ : ∃ b : Nat, z = (b : Int) := ⟨z.toNat, by simp only at hr; omega⟩
      have hb16 : b < 16 := by simp only at hr; omega
      have hb1 : (b : Int) < 16 := by omega
      simp only [Int.toNat_natCast] at hst
      simp only at c0 c1 c2 c3 c4
      have q := rng_row hI.tb b hb16
      obtain ⟨t, ht⟩ : ∃ t, rowT (ly newT (rs.take k)) b = t := ⟨_, rfl⟩
      rw [ht] at q
      have hnw : nwR (ly newT (rs.take k)) ((b : Int), u0, u1, u2, u3) = decide (t.2.2.1 < u2) := by rw [← ht]; rfl
      rw [hnw] at hst
      obtain ⟨t0, t1, t2, t3⟩ := t
      simp only at hst
      clear ht hnw hr
      obtain ⟨x0, x1, x2, x3⟩ := ent_of_range _ _ _ _ q
      have hft := nb_frozen hI.tb
      have HI2 := Lib.hid hI
      have HST := Lib.hid hst
      clear hI q hst hSR hbs
      go_upto_region 16 with fail
      go_quiet (fail)
      obtain ⟨p, hp⟩ : ∃ p, decide (t2 < u2) = p := ⟨_, rfl⟩
      replace HST := Lib.hid (show ly newT (rs.take (k + 1)) = if p = true then setR (ly newT (rs.take k)) b (u0, u1, u2, u3) else ly newT (rs.take k) by rw [HST.out, hp])
      rw [hp]
      clear hp
      have hI : TkJ newT ba tv (some ⟨bs, off, none⟩) sn sc X w m bo (rs.take k) (wr.drewN nq) := ⟨below_tb HI2.out.lo nq, HI2.out.tb, HI2.out.sb, HI2.out.ob⟩
      have cc : ∀ a, (wr.drewN nq).cell? a = wr.cell? a := fun _ => rfl
      rw [← cc] at c0 c1 c2 c3 c4 q0 q1 q2 x0 x1 x2 x3
      have f0 : (wr.drewN nq).frozen? ⟨m, 1 + b * 4, none⟩ = false := hft _
      have f1 : (wr.drewN nq).frozen? ⟨m, 1 + b * 4 + 1, none⟩ = false := hft _
      have f2 : (wr.drewN nq).frozen? ⟨m, 1 + b * 4 + 2, none⟩ = false := hft _
      have f3 : (wr.drewN nq).frozen? ⟨m, 1 + b * 4 + 3, none⟩ = false := hft _
      clear HI2 hft cc
      generalize wr.drewN nq = W2 at *
      cases p
      · have HIX := Lib.hid (show TkJ newT ba tv (some ⟨bs, off, none⟩) sn sc X w m bo (rs.take (k + 1)) W2 from ⟨hI.lo, by rw [HST.out]; exact hI.tb, hI.sb, hI.ob⟩)
        clear hI c0 c1 c2 c3 c4 q0 q1 q2 x0 x1 x2 x3 f0 f1 f2 f3
        go_wp2
        go_roundw
        case rel => exact ⟨k + 1, by omega, by go_num, HIX.out⟩
        case measure => simp [intOf]; omega
      · obtain ⟨hm3, hbo⟩ := HM.out
        have HIX := Lib.hid (show TkJ newT ba tv (some ⟨bs, off, none⟩) sn sc X w m bo (rs.take (k + 1)) (W2.setCells m (1 + b * 4) [.int .i64 u0, .int .i64 u1, .int .i64 u2, .int .i64 u3]) from
          ⟨below_setCells m (by omega) _ _ w _ hI.lo, by rw [HST.out]; exact nb_row hI.tb b (u0, u1, u2, u3), (nb_other (by omega) _ _ _).trans hI.sb, (nb_other (by omega) _ _ _).trans hI.ob⟩)
        clear hI hm3 hbo
        go_wp2
        go_roundw
        case rel => exact ⟨k + 1, by omega, by go_num, HIX.out⟩
        case measure => simp [intOf]; omega
    · obtain rfl : k = sn := by omega
      rw [show rs.take k = rs from List.take_of_length_le (by rw [HG.out.2.1]; exact Nat.le_refl _)] at hI
      obtain ⟨hm3, hbo⟩ := HM.out
      obtain ⟨q0, q1, q2⟩ := sh_cells _ _ _ _ _ hI.sb
      have c0 := nb_cell hI.tb (o := 0) (by omega)
      have g0 := nb_frozen hI.tb 0
      have HI2 := Lib.hid hI
      have HM3 := Lib.hid hm3
      clear hI hm3
      go_upto_region 19 with fail
      have hm3 := HM3.out
      have hT6 : NB m 26 65 X (wr.setCell ⟨m, 0, none⟩ (.int .i64 tv)) := HXX.out ▸ nb_put HI2.out.tb 0 tv
      have hO6 : CB bo true X (wr.setCell ⟨m, 0, none⟩ (.int .i64 tv)) := (Below.heap_setCell wr ⟨m, 0, none⟩ (.int .i64 tv) bo (by show bo ≠ m; omega)).trans HI2.out.ob
      have hB6 : Below w.heap.size w (wr.setCell ⟨m, 0, none⟩ (.int .i64 tv)) := HI2.out.lo.setCell (p := ⟨m, 0, none⟩) (by show w.heap.size ≤ m; omega) (.int .i64 tv)
      clear HI2 c0 g0 q0 q1 q2 hm3 hbo HM HM3
      generalize wr.setCell ⟨m, 0, none⟩ (.int .i64 tv) = W6 at *
      have l6 := ld_tab hT6
      have l7 := ld_ctab hO6
      have l8 := ld_cli hO6
      have h8 := cb_has hO6
      have hEq : ∀ W, (Op.equalIn 10000 26 (tabV X) (tabV X)).run Try.prog W = .ok true W := fun W => by
        have h := run_eqT X X W
        rwa [eqN_refl] at h
      have HB6 := Lib.hid hB6
      clear hT6 hO6 hB6
      go_wp2_with fail
      refine (KX.out W6).mono ?_
      rintro e w7 ⟨rfl, m7⟩
      have HX := Lib.hid (HB6.out.trans (m7.mono HB6.out.size))
      clear l6 l7 l8 h8 m7 hEq
      go_wp2_with (go_at_call 26; (with_reducible refine (WKS.out _).mono ?_); rintro e w9 ⟨rfl, m9⟩)
      go_ret
      exact ⟨rfl, HX.out.trans (m9.mono HX.out.size)⟩

theorem clTakes_walk (h : Bool) (T : Nat → Int) (ba tv : Int) (sa : Option Addr) (sn sc : Nat) (rs : List SR) (w : World) (_ : TabOk T) (h0 : IsSh w sa sn sc rs) :
    Calls Try.prog 6 #[cliV h T, .agg #[.int .i64 ba, .int .i64 tv, .slice sa sn sc]] w fun e w' => e = .returned (.bool true) ∧ Below w.heap.size w w' := by
  cases h
  · exact clTakes_f T ba tv sa sn sc rs w h0
  · exact clTakes_t T ba tv sa sn sc rs w h0
end Go.Proofs.Ythgoopdekllanaa
