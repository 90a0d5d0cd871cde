/- A row set: package table's, the document's. -/
import Derived.Test.YtanbkbppahgbgaaTbD
namespace Go.Proofs.Ytanbkbppahgbgaa
open Go.RowKit Go.Shelf
open SumM

attribute [local go_sem] Oper.semAt_some zero_tab build_tab guard_undef
attribute [local go_sem ↓] nm_ldT nm_ldA nm_ldN nm_stT nm_stN

/-- May the row be set? -/
def setOk (T : Nat → Int) (b : Int) (u : Ent) : Bool := rgT T && rgE u && decide (0 ≤ b) && decide (b < 16) && !(T 0 == 1099511627776) && decide ((rowT T b.toNat).2.2.1 < u.2.2.1)
/-- The table with the row set; nothing, where it may not be. -/
def setV (T : Nat → Int) (b : Int) (u : Ent) : Nat → Int := if setOk T b u = true then upd (setR T b.toNat u) 0 (T 0 + 1) else zeroT
def setN (T : Nat → Int) (b : Int) (u : Ent) : Int := if setOk T b u = true then 0 else 2
theorem rwT_yes {T : Nat → Int} {b : Int} (h : 0 ≤ b ∧ b < 16) : rwT T b = (rowT T b.toNat, true) := if_pos h
theorem rwT_no {T : Nat → Int} {b : Int} (h : ¬ (0 ≤ b ∧ b < 16)) : rwT T b = (ent0, false) := if_neg h

set_option maxRecDepth 100000 in
set_option maxHeartbeats 8000000 in
theorem set_any (T : Nat → Int) (b : Int) (ec ep eg et : Int) (w : World) : Calls Try.prog 8 #[tabV T, .int .i64 b, .agg #[.int .i64 ec, .int .i64 ep, .int .i64 eg, .int .i64 et]] w fun e w' => e = .returned (.tuple #[tabV (setV T b (ec, ep, eg, et)), .int .i64 (setN T b (ec, ep, eg, et))]) ∧ Below w.heap.size w w' := by
  have bT := heap_alloc_new w (.cells (numL 65 T).toArray 26)
  have LT := (Below.refl w.heap.size w).alloc (Nat.le_refl _) (.cells (numL 65 T).toArray 26)
  have hs1 : (w.alloc (.cells (numL 65 T).toArray 26)).heap.size = w.heap.size + 1 := by simp
  go_enter Try.func8, Try.ntmps8
  go_upto_region 1 with (fail)
  generalize w.alloc (.cells (numL 65 T).toArray 26) = Wa at *
  have bE := heap_alloc_new Wa (.cells #[.int .i64 ec, .int .i64 ep, .int .i64 eg, .int .i64 et] 23)
  have bT := (Below.heap_alloc Wa (.cells #[.int .i64 ec, .int .i64 ep, .int .i64 eg, .int .i64 et] 23) _ (by omega)).trans bT
  have LE := LT.alloc LT.size (.cells #[.int .i64 ec, .int .i64 ep, .int .i64 eg, .int .i64 et] 23)
  have hs2 : (Wa.alloc (.cells #[.int .i64 ec, .int .i64 ep, .int .i64 eg, .int .i64 et] 23)).heap.size = w.heap.size + 2 := by simp; omega
  rw [hs1] at bE
  generalize Wa.alloc (.cells #[.int .i64 ec, .int .i64 ep, .int .i64 eg, .int .i64 et] 23) = Wb at *
  have bR := heap_alloc_new Wb (.cells (numL 65 zeroT).toArray 26)
  have bT := (Below.heap_alloc Wb (.cells (numL 65 zeroT).toArray 26) _ (by omega)).trans bT
  have bE := (Below.heap_alloc Wb (.cells (numL 65 zeroT).toArray 26) _ (by omega)).trans bE
  have L0 := LE.alloc LE.size (.cells (numL 65 zeroT).toArray 26)
  rw [hs2] at bR
  generalize Wb.alloc (.cells (numL 65 zeroT).toArray 26) = W0 at *
  clear LT LE hs1 hs2
  refine wp_scope_jumps 0 (fun a' w' => Below w.heap.size w w' ∧ NB (w.heap.size + 2) 26 65 zeroT w' ∧ setOk T b (ec, ep, eg, et) = false ∧ ∃ (v0 v1 v2 v3 v4 v5 v7 v8 v9 v10 v11 v12 v13 v14 v15 v16 v17 v18 v19 v20 v21 v22 v23 v24 v25 v26 v27 v28 v29 v30 v31 v32 v33 v34 v35 v36 v37 v38 v39 v40 v41 v42 v43 v44 v45 v46 : Value), a' = { tmps := #[v0, v1, v2, v3, v4, v5, .pointer (some ⟨w.heap.size + 2, 0, none⟩), v7, v8, v9, v10, v11, v12, v13, v14, v15, v16, v17, v18, v19, v20, v21, v22, v23, v24, v25, v26, v27, v28, v29, v30, v31, v32, v33, v34, v35, v36, v37, v38, v39, v40, v41, v42, v43, v44, v45, v46], defers := [] }) (fun _ _ => 0) rfl ?first ?pass
  case pass =>
    rintro a' w' ⟨hb, hR, hno, v0, v1, v2, v3, v4, v5, v7, v8, v9, v10, v11, v12, v13, v14, v15, v16, v17, v18, v19, v20, v21, v22, v23, v24, v25, v26, v27, v28, v29, v30, v31, v32, v33, v34, v35, v36, v37, v38, v39, v40, v41, v42, v43, v44, v45, v46, rfl⟩
    have s0 := st_tab hR zeroT
    have HS := Lib.hid (nb_full hR zeroT)
    have HBX := Lib.hid (below_setCells (w.heap.size + 2) (by omega) (numL 65 zeroT) 0 w _ hb)
    have HV := Lib.hid (show setV T b (ec, ep, eg, et) = zeroT by unfold setV; rw [hno]; rfl)
    have HN := Lib.hid (show setN T b (ec, ep, eg, et) = 2 by unfold setN; rw [hno]; rfl)
    clear hR hb hno
    go_wp2
    simp only [Exit.jump]
    exact bodyPost_ret (results_agg_tmp rfl _ _ (w.heap.size + 2) _ _ (0, 0) _ rfl HS.out Try.undT rfl (by rw [List.size_toArray, numL_len]; exact Try.sizT)) rfl ⟨by rw [HV.out, HN.out]; rfl, HBX.out⟩
  case first =>
    have l0 := ld_tab bT
    go_wp2_with fail
    refine (row_any T b W0).mono ?_
    rintro e w1 ⟨rfl, m1⟩
    have bT := bb bT m1
    have bE := bb bE m1
    have bR := bb bR m1
    have L1 := L0.trans (m1.mono L0.size)
    have hrw : (rwT T b).2 = decide (0 ≤ b ∧ b < 16) ∧ ((0 ≤ b ∧ b < 16) → (rwT T b).1 = rowT T b.toNat) := by
      by_cases h : 0 ≤ b ∧ b < 16
      · rw [rwT_yes h]
        exact ⟨(decide_eq_true h).symm, fun _ => rfl⟩
      · rw [rwT_no h]
        exact ⟨(decide_eq_false h).symm, fun h2 => absurd h2 h⟩
    obtain ⟨hok, hrow⟩ := hrw
    generalize rwT T b = p at *
    obtain ⟨⟨x0, x1, x2, x3⟩, ok⟩ := p
    simp only at hok hrow
    have hlt : w.heap.size + 2 < w1.heap.size := nb_lt bR
    have hd := heap_alloc_new w1 (.cells #[.int .i64 0, .int .i64 0, .int .i64 0, .int .i64 0] 23)
    obtain ⟨z0, z1, z2, z3⟩ := ent_cells _ _ _ _ hd
    have f0 := ent_frozen hd 0
    have f1 := ent_frozen hd 1
    have f2 := ent_frozen hd 2
    have f3 := ent_frozen hd 3
    have HOK := Lib.hid hok
    have HROW := Lib.hid hrow
    clear hd l0 m1 L0 hok hrow
    have LX := Lib.hid (fun v0 v1 v2 v3 => (Below.refl w1.heap.size w1).alloc (Nat.le_refl _) (.cells #[.int .i64 v0, .int .i64 v1, .int .i64 v2, .int .i64 v3] 23))
    have HL1 := Lib.hid L1
    have HT := Lib.hid bT
    have HE := Lib.hid bE
    have HR := Lib.hid bR
    clear L1 bT bE bR hlt
    cases ok
    · have HNO := Lib.hid (show setOk T b (ec, ep, eg, et) = false by
        have := HOK.out
        rw [Bool.eq_false_iff]
        intro hc
        simp only [setOk, Bool.and_eq_true, decide_eq_true_eq] at hc
        exact absurd ⟨hc.1.1.1.2, hc.1.1.2⟩ (of_decide_eq_false this.symm))
      go_wp2
      refine wp_goto ⟨rfl, HL1.out.trans ((LX.out x0 x1 x2 x3).mono HL1.out.size), bb HR.out (LX.out x0 x1 x2 x3), HNO.out, _, _, _, _, _, _, _, _, _, _, _, _, _, _, _, _, _, _, _, _, _, _, _, _, _, _, _, _, _, _, _, _, _, _, _, _, _, _, _, _, _, _, _, _, _, _, rfl⟩
    · have hbk : 0 ≤ b ∧ b < 16 := of_decide_eq_true HOK.out.symm
      have HXR := Lib.hid (HROW.out hbk)
      have HBK := Lib.hid hbk
      go_upto_region 2 with fail
      clear z0 z1 z2 z3 f0 f1 f2 f3
      have bX := heap_alloc_new w1 (.cells #[.int .i64 x0, .int .i64 x1, .int .i64 x2, .int .i64 x3] 23)
      have LX1 := LX.out x0 x1 x2 x3
      have bT := bb HT.out LX1
      have bE := bb HE.out LX1
      have bR := bb HR.out LX1
      have L1 := HL1.out.trans (LX1.mono HL1.out.size)
      clear HT HE HR HL1 LX LX1 HROW HOK hbk
      generalize w1.alloc (.cells #[.int .i64 x0, .int .i64 x1, .int .i64 x2, .int .i64 x3] 23) = W1 at *
      generalize w1.heap.size = B at *
      have l0 := ld_tab bT
      obtain ⟨r, hr⟩ : ∃ r, rgT T = r := ⟨_, rfl⟩
      have KR := Lib.hid (hr ▸ right_any T W1)
      go_wp2_with fail
      refine KR.out.mono ?_
      rintro e w2 ⟨rfl, m2⟩
      have bT := bb bT m2
      have bE := bb bE m2
      have bX := bb bX m2
      have bR := bb bR m2
      have L2 := L1.trans (m2.mono L1.size)
      have hHR := Lib.hid hr
      clear KR l0 m2 L1 hr
      cases r
      · have HNO := Lib.hid (show setOk T b (ec, ep, eg, et) = false by unfold setOk; rw [hHR.out]; rfl)
        go_wp2
        exact wp_goto ⟨rfl, L2, bR, HNO.out, _, _, _, _, _, _, _, _, _, _, _, _, _, _, _, _, _, _, _, _, _, _, _, _, _, _, _, _, _, _, _, _, _, _, _, _, _, _, _, _, _, _, _, _, _, _, rfl⟩
      have c0 := nb_cell bT (o := 0) (by omega)
      by_cases hv : T 0 = 1099511627776
      · have HNO := Lib.hid (show setOk T b (ec, ep, eg, et) = false by unfold setOk; rw [hv]; simp)
        have e0 : (T 0 == 1099511627776) = true := by simpa using hv
        clear hv
        go_wp2
        exact wp_goto ⟨rfl, L2, bR, HNO.out, _, _, _, _, _, _, _, _, _, _, _, _, _, _, _, _, _, _, _, _, _, _, _, _, _, _, _, _, _, _, _, _, _, _, _, _, _, _, _, _, _, _, _, _, _, _, rfl⟩
      have e0 : (T 0 == 1099511627776) = false := by simpa using hv
      have HV := Lib.hid hv
      clear hv
      go_upto_region 3 with fail
      obtain ⟨q0, q1, q2, q3⟩ := ent_cells _ _ _ _ bE
      obtain ⟨r, hr⟩ : ∃ r, rgt ec ep eg et = r := ⟨_, rfl⟩
      have KR := Lib.hid (hr ▸ eRight_any ec ep eg et w2)
      have hHE := Lib.hid hr
      clear hr
      go_wp2_with fail
      refine KR.out.mono ?_
      rintro e w3 ⟨rfl, m3⟩
      have bT := bb bT m3
      have bE := bb bE m3
      have bX := bb bX m3
      have bR := bb bR m3
      have L3 := L2.trans (m3.mono L2.size)
      clear KR q0 q1 q2 q3 m3 L2
      cases r
      · have HNO := Lib.hid (show setOk T b (ec, ep, eg, et) = false by unfold setOk; rw [show rgE (ec, ep, eg, et) = false from hHE.out]; simp)
        go_wp2
        exact wp_goto ⟨rfl, L3, bR, HNO.out, _, _, _, _, _, _, _, _, _, _, _, _, _, _, _, _, _, _, _, _, _, _, _, _, _, _, _, _, _, _, _, _, _, _, _, _, _, _, _, _, _, _, _, _, _, _, rfl⟩
      obtain ⟨q0, q1, q2, q3⟩ := ent_cells _ _ _ _ bE
      obtain ⟨y0, y1, y2, y3⟩ := ent_cells _ _ _ _ bX
      obtain ⟨r, hr⟩ : ∃ r, decide (x2 < eg) = r := ⟨_, rfl⟩
      have KR := Lib.hid (hr ▸ eNewer_any ec ep eg et x0 x1 x2 x3 w3)
      have hHN := Lib.hid hr
      clear hr
      go_wp2_with fail
      refine KR.out.mono ?_
      rintro e w4 ⟨rfl, m4⟩
      have bT := bb bT m4
      have bE := bb bE m4
      have bR := bb bR m4
      have L4 := L3.trans (m4.mono L3.size)
      clear KR q0 q1 q2 q3 y0 y1 y2 y3 m4 L3 bX
      have hgen : (rowT T b.toNat).2.2.1 = x2 := by rw [← HXR.out]
      cases r
      · have HNO := Lib.hid (show setOk T b (ec, ep, eg, et) = false by unfold setOk; rw [hgen, hHN.out]; simp)
        clear hgen
        go_wp2
        exact wp_goto ⟨rfl, L4, bR, HNO.out, _, _, _, _, _, _, _, _, _, _, _, _, _, _, _, _, _, _, _, _, _, _, _, _, _, _, _, _, _, _, _, _, _, _, _, _, _, _, _, _, _, _, _, _, _, _, rfl⟩
      have HYES := Lib.hid (show setOk T b (ec, ep, eg, et) = true by
        unfold setOk
        rw [hgen, hHN.out, hHR.out, show rgE (ec, ep, eg, et) = true from hHE.out, e0]
        simp [HBK.out.1, HBK.out.2])
      have hver := (rgT_iff.1 hHR.out).1
      have hwr := Lib.hid (show IntKind.i64.wrap (T 0 + 1) = T 0 + 1 from IntWalk.i64_in _ (by omega))
      obtain ⟨k, rfl⟩ : ∃ k : Nat, b = (k : Int) := ⟨b.toNat, by have := HBK.out; omega⟩
      have hk : k < 16 := by have := HBK.out; omega
      have hk1 : (k : Int) < 16 := by omega
      go_upto_region 4 with fail
      obtain ⟨q0, q1, q2, q3⟩ := ent_cells _ _ _ _ bE
      have q := rng_row bT k hk
      generalize rowT T k = u at *
      obtain ⟨u0, u1, u2, u3⟩ := u
      obtain ⟨y0, y1, y2, y3⟩ := ent_of_range _ _ _ _ q
      have f0 := nb_frozen bT (1 + k * 4)
      have f1 := nb_frozen bT (1 + k * 4 + 1)
      have f2 := nb_frozen bT (1 + k * 4 + 2)
      have f3 := nb_frozen bT (1 + k * 4 + 3)
      have bT5 : NB w.heap.size 26 65 (setR T k (ec, ep, eg, et)) ((((w4.setCell ⟨w.heap.size, 1 + k * 4, none⟩ (.int .i64 ec)).setCell ⟨w.heap.size, 1 + k * 4 + 1, none⟩ (.int .i64 ep)).setCell ⟨w.heap.size, 1 + k * 4 + 2, none⟩ (.int .i64 eg)).setCell ⟨w.heap.size, 1 + k * 4 + 3, none⟩ (.int .i64 et)) := nb_row bT k (ec, ep, eg, et)
      have bR5 : NB (w.heap.size + 2) 26 65 zeroT ((((w4.setCell ⟨w.heap.size, 1 + k * 4, none⟩ (.int .i64 ec)).setCell ⟨w.heap.size, 1 + k * 4 + 1, none⟩ (.int .i64 ep)).setCell ⟨w.heap.size, 1 + k * 4 + 2, none⟩ (.int .i64 eg)).setCell ⟨w.heap.size, 1 + k * 4 + 3, none⟩ (.int .i64 et)) := (nb_other (b := w.heap.size) (k := w.heap.size + 2) (by omega) [.int .i64 ec, .int .i64 ep, .int .i64 eg, .int .i64 et] (1 + k * 4) w4).trans bR
      have L5 : Below w.heap.size w ((((w4.setCell ⟨w.heap.size, 1 + k * 4, none⟩ (.int .i64 ec)).setCell ⟨w.heap.size, 1 + k * 4 + 1, none⟩ (.int .i64 ep)).setCell ⟨w.heap.size, 1 + k * 4 + 2, none⟩ (.int .i64 eg)).setCell ⟨w.heap.size, 1 + k * 4 + 3, none⟩ (.int .i64 et)) := below_setCells w.heap.size (Nat.le_refl _) [.int .i64 ec, .int .i64 ep, .int .i64 eg, .int .i64 et] (1 + k * 4) w _ L4
      have HT5 := Lib.hid bT5
      have HR5 := Lib.hid bR5
      have HL5 := Lib.hid L5
      clear bT bE bR L4 q c0 bT5 bR5 L5 hgen hver
      go_upto_region 5 with fail
      have bT5 := HT5.out
      have bR5 := HR5.out
      have L5 := HL5.out
      clear HT5 HR5 HL5 q0 q1 q2 q3 y0 y1 y2 y3 f0 f1 f2 f3
      generalize (((w4.setCell ⟨w.heap.size, 1 + k * 4, none⟩ (.int .i64 ec)).setCell ⟨w.heap.size, 1 + k * 4 + 1, none⟩ (.int .i64 ep)).setCell ⟨w.heap.size, 1 + k * 4 + 2, none⟩ (.int .i64 eg)).setCell ⟨w.heap.size, 1 + k * 4 + 3, none⟩ (.int .i64 et) = W5 at *
      have c0 := nb_cell bT5 (o := 0) (by omega)
      have g0 := nb_frozen bT5 0
      have e2 : setR T k (ec, ep, eg, et) 0 = T 0 := by
        unfold setR upd
        rw [if_neg (by omega), if_neg (by omega), if_neg (by omega), if_neg (by omega)]
      rw [e2] at c0
      have w0 := hwr.out
      have bT6 := nb_put bT5 0 (T 0 + 1)
      have bR6 := (Below.heap_setCell W5 ⟨w.heap.size, 0, none⟩ (.int .i64 (T 0 + 1)) (w.heap.size + 2) (by simp)).trans bR5
      have L6 := L5.setCell (p := ⟨w.heap.size, 0, none⟩) (Nat.le_refl _) (.int .i64 (T 0 + 1))
      have HT6 := Lib.hid bT6
      have HR6 := Lib.hid bR6
      have HL6 := Lib.hid L6
      clear bT5 bR5 L5 bT6 bR6 L6 e2
      go_upto_region 6 with fail
      have bT6 := HT6.out
      have bR6 := HR6.out
      have L6 := HL6.out
      clear HT6 HR6 HL6 c0 g0 w0
      generalize W5.setCell ⟨w.heap.size, 0, none⟩ (.int .i64 (T 0 + 1)) = W6 at *
      have HV := Lib.hid (show setV T k (ec, ep, eg, et) = upd (setR T k (ec, ep, eg, et)) 0 (T 0 + 1) by unfold setV; rw [HYES.out]; rfl)
      have HN := Lib.hid (show setN T k (ec, ep, eg, et) = 0 by unfold setN; rw [HYES.out]; rfl)
      have l6 := ld_tab bT6
      have s6 := st_tab bR6 (upd (setR T k (ec, ep, eg, et)) 0 (T 0 + 1))
      have HS := Lib.hid (nb_full bR6 (upd (setR T k (ec, ep, eg, et)) 0 (T 0 + 1)))
      have HX := Lib.hid (below_setCells (w.heap.size + 2) (by omega) (numL 65 (upd (setR T k (ec, ep, eg, et)) 0 (T 0 + 1))) 0 w _ L6)
      clear bT6 bR6 L6
      go_wp2
      simp only [Exit.jump]
      exact bodyPost_ret (results_agg_tmp rfl _ _ (w.heap.size + 2) _ _ (0, 0) _ rfl HS.out Try.undT rfl (by rw [List.size_toArray, numL_len]; exact Try.sizT)) rfl ⟨by rw [HV.out, HN.out]; rfl, HX.out⟩
end Go.Proofs.Ytanbkbppahgbgaa
