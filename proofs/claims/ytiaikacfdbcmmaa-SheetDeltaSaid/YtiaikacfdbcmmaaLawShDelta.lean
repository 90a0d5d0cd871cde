/- SheetDelta, walked. -/
import Derived.Test.YtiaikacfdbcmmaaShW
import Derived.Test.YtiaikacfdbcmmaaShZ
import Derived.Test.YtiaikacfdbcmmaaTbL
import Derived.Deep.RegionHeldLaw
namespace Go.Proofs.Ytiaikacfdbcmmaa
open Go.RowKit Go.Shelf
open SumM
attribute [local go_sem] Oper.semAt_some zero_tab
attribute [local go_sem ↓] nm_ldT nm_stT

theorem grd_tab : Try.prog.eqGuardType Try.prog.depth 26 = false := by kernel_rfl
attribute [local go_sem] grd_tab
set_option maxRecDepth 100000 in
set_option maxHeartbeats 16000000 in
theorem shDelta_walk (T U : Nat → Int) (w : World) (_ : TabOk T) (_ : TabOk U) :
    Calls Try.prog 6 #[tabV T, tabV U] w fun e w' => e = .returned (.bool true) ∧ Below w.heap.size w w' := by
  have WKS := Lib.hid (fun W => wakes_any W)
  have HB := Lib.hid (show Below w.heap.size w ((w.alloc (.cells (numL 65 T).toArray 26)).alloc (.cells (numL 65 U).toArray 26)) ∧ NB w.heap.size 26 65 T ((w.alloc (.cells (numL 65 T).toArray 26)).alloc (.cells (numL 65 U).toArray 26)) ∧ NB (w.heap.size + 1) 26 65 U ((w.alloc (.cells (numL 65 T).toArray 26)).alloc (.cells (numL 65 U).toArray 26)) from
    ⟨((Below.refl w.heap.size w).alloc (Nat.le_refl _) _).alloc (by simp) _, blkN (heap_alloc_new w _) _, newN _ _ _ (by simp)⟩)
  obtain ⟨⟨x, y, rs, z⟩, hq⟩ : ∃ r, dlS T U = r := ⟨_, rfl⟩
  have KD := Lib.hid (fun W => hq ▸ sDelta_any T U W)
  have HQ := Lib.hid hq
  clear hq
  generalize hnn : rs.length = n0 at *
  have HN := Lib.hid hnn
  clear hnn
  go_enter Try.func6, Try.ntmps6
  go_upto_region 1 with fail
  generalize ((w.alloc (.cells (numL 65 T).toArray 26)).alloc (.cells (numL 65 U).toArray 26)) = W0 at *
  have l1 := ld_tab HB.out.2.1
  have l2 := ld_tab HB.out.2.2
  go_wp2_with fail
  refine (KD.out W0).mono ?_
  rintro e w1 hr
  obtain ⟨S1, c1, rfl, hc0, hc1, O1, m1⟩ := hr.slice HN.out
  have M1 := m1.trans (((Below.refl w1.heap.size w1).alloc (Nat.le_refl _) (.cells #[.int .i64 x, .int .i64 y, .slice S1 n0 c1] 29)).mono m1.size)
  have HB1 := Lib.hid (show Below w.heap.size w (w1.alloc (.cells #[.int .i64 x, .int .i64 y, .slice S1 n0 c1] 29)) ∧ NB w.heap.size 26 65 T (w1.alloc (.cells #[.int .i64 x, .int .i64 y, .slice S1 n0 c1] 29)) ∧ NB (w.heap.size + 1) 26 65 U (w1.alloc (.cells #[.int .i64 x, .int .i64 y, .slice S1 n0 c1] 29)) ∧ (w1.alloc (.cells #[.int .i64 x, .int .i64 y, .slice S1 n0 c1] 29)).heap[w1.heap.size]? = some (.cells #[.int .i64 x, .int .i64 y, .slice S1 n0 c1] 29 (0, 0)) ∧ (w1.alloc (.cells #[.int .i64 x, .int .i64 y, .slice S1 n0 c1] 29)).ownsRow w.heap.size 48 5 (.slice S1 n0 c1) n0 (flatS rowC rs) from
    ⟨HB.out.1.trans (M1.mono HB.out.1.size), nb_below HB.out.2.1 M1, nb_below HB.out.2.2 M1, heap_alloc_new w1 _, ownS_below (ownS_base O1 HB.out.1.size) ((Below.refl w1.heap.size w1).alloc (Nat.le_refl _) _)⟩)
  clear m1 O1 hc0 hc1 M1 HB l1 l2 hr KD
  have zz := heap_alloc_new w1 (.cells #[.int .i64 0, .int .i64 0, .slice none 0 0] 29)
  obtain ⟨z0, z1, z2⟩ := sh_cells _ _ _ _ _ zz
  have f0 := sh_frozen zz 0
  have f1 := sh_frozen zz 1
  have f2 := sh_frozen zz 2
  clear zz
  go_upto_region 2 with fail
  clear z0 z1 z2 f0 f1 f2
  generalize w1.alloc (.cells #[.int .i64 x, .int .i64 y, .slice S1 n0 c1] 29) = W1 at *
  generalize w1.heap.size = b5 at *
  have l1 := ld_tab HB1.out.2.1
  obtain ⟨gT, hgT⟩ : ∃ g, rgT T = g := ⟨_, rfl⟩
  obtain ⟨gU, hgU⟩ : ∃ g, rgT U = g := ⟨_, rfl⟩
  have KR := Lib.hid (hgT ▸ r10Right_any T W1)
  by_cases hall : (rgT T && rgT U && decide (T 0 < U 0)) = true
  · have hq := HQ.out
    unfold dlS at hq
    rw [if_pos hall] at hq
    simp only [Bool.and_eq_true, decide_eq_true_eq] at hall
    obtain ⟨⟨a1, a2⟩, a3⟩ := hall
    simp only [Prod.mk.injEq] at hq
    obtain ⟨rfl, rfl, hrs, rfl⟩ := hq
    rw [hgT] at a1
    rw [hgU] at a2
    subst a1 a2
    have HOK := Lib.hid (hrs ▸ shOk_ch hgT hgU a3)
    have HRS := Lib.hid (hrs.symm.trans (chS_map T U))
    have hg0 : decide (U 0 ≤ T 0) = false := decide_eq_false (by omega)
    clear hrs a3 HQ
    go_wp2_with fail
    refine KR.out.mono ?_
    rintro e w2 ⟨rfl, m2⟩
    have HB2 := Lib.hid (show Below w.heap.size w w2 ∧ NB w.heap.size 26 65 T w2 ∧ NB (w.heap.size + 1) 26 65 U w2 ∧ w2.heap[b5]? = some (.cells #[.int .i64 (T 0), .int .i64 (U 0), .slice S1 n0 c1] 29 (0, 0)) ∧ w2.ownsRow w.heap.size 48 5 (.slice S1 n0 c1) n0 (flatS rowC rs) from
      ⟨HB1.out.1.trans (m2.mono HB1.out.1.size), nb_below HB1.out.2.1 m2, nb_below HB1.out.2.2.1 m2, bb HB1.out.2.2.2.1 m2, ownS_below HB1.out.2.2.2.2 m2⟩)
    clear m2 HB1 l1 KR
    have l2 := ld_tab HB2.out.2.2.1
    have KR2 := Lib.hid (hgU ▸ r10Right_any U w2)
    go_wp2_with fail
    refine KR2.out.mono ?_
    rintro e w3 ⟨rfl, m3⟩
    have HB3 := Lib.hid (show Below w.heap.size w w3 ∧ NB w.heap.size 26 65 T w3 ∧ NB (w.heap.size + 1) 26 65 U w3 ∧ w3.heap[b5]? = some (.cells #[.int .i64 (T 0), .int .i64 (U 0), .slice S1 n0 c1] 29 (0, 0)) ∧ w3.ownsRow w.heap.size 48 5 (.slice S1 n0 c1) n0 (flatS rowC rs) from
      ⟨HB2.out.1.trans (m3.mono HB2.out.1.size), nb_below HB2.out.2.1 m3, nb_below HB2.out.2.2.1 m3, bb HB2.out.2.2.2.1 m3, ownS_below HB2.out.2.2.2.2 m3⟩)
    clear m3 HB2 l2 KR2
    have t0 := nb_cell HB3.out.2.1 (show 0 < 65 by omega)
    have u0 := nb_cell HB3.out.2.2.1 (show 0 < 65 by omega)
    go_upto_region 4 with fail
    clear t0 u0 hg0
    have l1 := ld_tab HB3.out.2.1
    have s1 := st_new w3 T
    obtain ⟨bN, j1⟩ := boxT_new w3 T
    have HB4 := Lib.hid (show Below w.heap.size w ((w3.alloc (.cells (numL 65 zeroT).toArray 26)).setCells w3.heap.size 0 (numL 65 (T))) ∧ NB w.heap.size 26 65 T ((w3.alloc (.cells (numL 65 zeroT).toArray 26)).setCells w3.heap.size 0 (numL 65 (T))) ∧ NB (w.heap.size + 1) 26 65 U ((w3.alloc (.cells (numL 65 zeroT).toArray 26)).setCells w3.heap.size 0 (numL 65 (T))) ∧ ((w3.alloc (.cells (numL 65 zeroT).toArray 26)).setCells w3.heap.size 0 (numL 65 (T))).heap[b5]? = some (.cells #[.int .i64 (T 0), .int .i64 (U 0), .slice S1 n0 c1] 29 (0, 0)) ∧ ((w3.alloc (.cells (numL 65 zeroT).toArray 26)).setCells w3.heap.size 0 (numL 65 (T))).ownsRow w.heap.size 48 5 (.slice S1 n0 c1) n0 (flatS rowC rs) ∧ NB w3.heap.size 26 65 T ((w3.alloc (.cells (numL 65 zeroT).toArray 26)).setCells w3.heap.size 0 (numL 65 (T))) ∧ w.heap.size + 2 ≤ w3.heap.size ∧ b5 < w3.heap.size ∧ (w3.heap.size : Nat) ≠ b5 from
      ⟨HB3.out.1.trans (j1.mono HB3.out.1.size), nb_below HB3.out.2.1 j1, nb_below HB3.out.2.2.1 j1, bb HB3.out.2.2.2.1 j1, ownS_below HB3.out.2.2.2.2 j1, bN, nb_lt HB3.out.2.2.1, nb_lt2 HB3.out.2.2.2.1, by have := nb_lt2 HB3.out.2.2.2.1; omega⟩)
    clear bN j1
    go_upto_region 5 with fail
    clear s1 l1 HB3
    generalize ((w3.alloc (.cells (numL 65 zeroT).toArray 26)).setCells w3.heap.size 0 (numL 65 (T))) = V4 at *
    generalize w3.heap.size = bo at *
    obtain ⟨q0, q1, q2⟩ := sh_cells _ _ _ _ _ HB4.out.2.2.2.1
    have c0 := nb_cell HB4.out.2.2.2.2.2.1 (show 0 < 65 by omega)
    have f0 := nb_frozen HB4.out.2.2.2.2.2.1 0
    have HB5 := Lib.hid (show ∀ V, V = V4.setCell ⟨bo, 0, none⟩ (.int .i64 (U 0)) → Below w.heap.size w V ∧ NB w.heap.size 26 65 T V ∧ NB (w.heap.size + 1) 26 65 U V ∧ V.heap[b5]? = some (.cells #[.int .i64 (T 0), .int .i64 (U 0), .slice S1 n0 c1] 29 (0, 0)) ∧ V.ownsRow w.heap.size 48 5 (.slice S1 n0 c1) n0 (flatS rowC rs) ∧ NB bo 26 65 (mixL T U ((chL T U).take 0)) V from by
      rintro V rfl
      have h7 := HB4.out.2.2.2.2.2.2
      refine ⟨HB4.out.1.setCell (p := ⟨bo, 0, none⟩) (by simp; omega) _, (nb_other (by omega) [.int .i64 (U 0)] 0 _).trans HB4.out.2.1, (nb_other (by omega) [.int .i64 (U 0)] 0 _).trans HB4.out.2.2.1, (nb_other (by omega) [.int .i64 (U 0)] 0 _).trans HB4.out.2.2.2.1, ownS_apart (by decide) [.int .i64 (U 0)] 0 _ _ HB4.out.2.2.2.2.1 HB4.out.2.2.2.2.2.1, ?_⟩
      rw [List.take_zero, mixL_zero]
      exact nb_put HB4.out.2.2.2.2.2.1 0 (U 0))
    go_upto_region 6 with fail
    clear c0 f0 q0 q1 q2
    generalize V4.setCell ⟨bo, 0, none⟩ (.int .i64 (U 0)) = V5 at *
    have HB5 := Lib.hid (HB5.out V5 rfl)
    have HBO := Lib.hid HB4.out.2.2.2.2.2.2
    clear HB4
    have hln : (chL T U).length = n0 := by rw [← HN.out, HRS.out, mapS_len]
    have HLN := Lib.hid (And.intro hln (chL_len T U))
    clear hln
    go_wp2_with fail
    go_loopw [8] (fun i V => ∃ k : Nat, k ≤ n0 ∧ i = .int .i64 (k : Nat) ∧ Below w.heap.size w V ∧ NB w.heap.size 26 65 T V ∧ NB (w.heap.size + 1) 26 65 U V ∧ V.heap[b5]? = some (.cells #[.int .i64 (T 0), .int .i64 (U 0), .slice S1 n0 c1] 29 (0, 0)) ∧ V.ownsRow w.heap.size 48 5 (.slice S1 n0 c1) n0 (flatS rowC rs) ∧ NB bo 26 65 (mixL T U ((chL T U).take k)) V) (fun i _ => n0 - (intOf i).toNat)
    case atStart => exact ⟨0, Nat.zero_le _, rfl, HB5.out⟩
    case round =>
      obtain ⟨k, hk, rfl, hI⟩ := hrel
      have HI := Lib.hid hI
      clear hI
      obtain ⟨q0, q1, q2⟩ := sh_cells _ _ _ _ _ HI.out.2.2.2.1
      by_cases hlt : k < n0
      · have hkl : k < (chL T U).length := by rw [HLN.out.1]; exact hlt
        have q3 : decide ((k : Int) < (n0 : Int)) = true := decide_eq_true (by omega)
        have hR := SRow.of_own rowC_len (by decide) HI.out.2.2.2.2.1
        obtain ⟨bs, os, rfl, hbs⟩ := sr_addr hR (by rw [HN.out]; omega)
        obtain ⟨x0, x1, x2, x3, x4⟩ := sr_at hR k (by rw [HN.out]; exact hlt)
        have hrk : rs[k]?.getD sr0 = ((((chL T U)[k] : Nat) : Int), rowT U ((chL T U)[k])) := by rw [HRS.out]; exact mapS_get hkl
        rw [hrk] at x0 x1 x2 x3 x4
        have hmem := List.getElem_mem hkl
        have hnd := nodup_take (chL_pair T U) hkl
        obtain ⟨hb16, hch⟩ := chL_lt hmem
        have htk : (chL T U).take (k + 1) = (chL T U).take k ++ [(chL T U)[k]] := by rw [List.take_add_one, List.getElem?_eq_getElem hkl]; rfl
        have hsn := mixL_snoc T U ((chL T U).take k) ((chL T U)[k])
        rw [← htk] at hsn
        generalize (chL T U)[k] = b at *
        obtain ⟨c0, c1', c2, c3⟩ := nb_cells4 HI.out.2.2.2.2.2 b hb16
        have d0 := mixL_at (T := T) (U := U) hnd 0 (by omega)
        have d1 := mixL_at (T := T) (U := U) hnd 1 (by omega)
        have d2 := mixL_at (T := T) (U := U) hnd 2 (by omega)
        have d3 := mixL_at (T := T) (U := U) hnd 3 (by omega)
        rw [Nat.add_zero] at d0
        rw [d0] at c0
        rw [d1] at c1'
        rw [d2] at c2
        rw [d3] at c3
        have f0 := nb_frozen HI.out.2.2.2.2.2 (1 + b * 4)
        have f1 := nb_frozen HI.out.2.2.2.2.2 (1 + b * 4 + 1)
        have f2 := nb_frozen HI.out.2.2.2.2.2 (1 + b * 4 + 2)
        have f3 := nb_frozen HI.out.2.2.2.2.2 (1 + b * 4 + 3)
        have hne : eqE (T (1 + b * 4)) (T (1 + b * 4 + 1)) (T (1 + b * 4 + 2)) (T (1 + b * 4 + 3)) (rowT U b).1 (rowT U b).2.1 (rowT U b).2.2.1 (rowT U b).2.2.2 = false := by
          rw [Bool.eq_false_iff]
          intro h
          have := eqE_iff.1 h
          have he : rowT T b = rowT U b := this
          simp [chP, he] at hch
        have HQS := Lib.hid (show ∀ nq V, V = ((wr.drewN nq).setCells bo (1 + b * 4) [.int .i64 (rowT U b).1, .int .i64 (rowT U b).2.1, .int .i64 (rowT U b).2.2.1, .int .i64 (rowT U b).2.2.2]) → Below w.heap.size w V ∧ NB w.heap.size 26 65 T V ∧ NB (w.heap.size + 1) 26 65 U V ∧ V.heap[b5]? = some (.cells #[.int .i64 (T 0), .int .i64 (U 0), .slice (some ⟨bs, os, none⟩) n0 c1] 29 (0, 0)) ∧ V.ownsRow w.heap.size 48 5 (.slice (some ⟨bs, os, none⟩) n0 c1) n0 (flatS rowC rs) ∧ NB bo 26 65 (mixL T U ((chL T U).take (k + 1))) V from by
          rintro nq V rfl
          have h7 := HBO.out
          refine ⟨below_setCells bo (by omega) _ _ w _ (below_dN HI.out.1 nq), (nb_other (by omega) _ _ _).trans HI.out.2.1, (nb_other (by omega) _ _ _).trans HI.out.2.2.1, (nb_other (by omega) _ _ _).trans HI.out.2.2.2.1, ownS_apart (by decide) _ _ (wr.drewN nq) _ (ownS_below HI.out.2.2.2.2.1 (below_dN (Below.refl _ _) nq)) HI.out.2.2.2.2.2, ?_⟩
          rw [← hsn]
          exact nb_row (show NB bo 26 65 (mixL T U ((chL T U).take k)) (wr.drewN nq) from HI.out.2.2.2.2.2) b (rowT U b))
        clear hR hrk hmem hnd hch htk hsn hkl d0 d1 d2 d3
        generalize hu : rowT U b = u at *
        obtain ⟨u0, u1, u2, u3⟩ := u
        simp only at x0 x1 x2 x3 x4 hne
        have e1 := run_eqE (T (1 + b * 4)) (T (1 + b * 4 + 1)) (T (1 + b * 4 + 2)) (T (1 + b * 4 + 3)) u0 u1 u2 u3
        rw [hne] at e1
        generalize T (1 + b * 4) = t0 at *
        generalize T (1 + b * 4 + 1) = t1 at *
        generalize T (1 + b * 4 + 2) = t2 at *
        generalize T (1 + b * 4 + 3) = t3 at *
        have g1 : decide ((b : Int) < 0) = false := decide_eq_false (by omega)
        have g2 : decide ((16 : Int) ≤ (b : Int)) = false := decide_eq_false (by omega)
        have g3 : (b : Int) < 16 := by omega
        have g4 : (0 : Int) ≤ (b : Int) := by omega
        have g5 : (k : Int) < (n0 : Int) := by omega
        have g6 : (0 : Int) ≤ (k : Int) := by omega
        have hcase : t0 ≠ u0 ∨ (t0 = u0 ∧ t1 ≠ u1) ∨ (t0 = u0 ∧ t1 = u1 ∧ t2 ≠ u2) ∨ (t0 = u0 ∧ t1 = u1 ∧ t2 = u2 ∧ t3 ≠ u3) := by
          simp only [eqE, decide_eq_false_iff_not] at hne
          omega
        have hn16 : n0 ≤ 16 := by have := HLN.out; omega
        have hw1 : IntKind.i64.wrap ((k : Int) + 1) = ((k + 1 : Nat) : Int) := by rw [IntWalk.i64_in _ (by omega)]; omega
        clear e1 hne
        rcases hcase with e | ⟨rfl, e⟩ | ⟨rfl, rfl, e⟩ | ⟨rfl, rfl, rfl, e⟩
        all_goals
          go_wp2_with fail
          go_quiet (fail)
          go_wp2
          refine ⟨⟨k + 1, by omega, rfl, HQS.out nq _ rfl⟩, ?_⟩
          simp [intOf]
          omega
      · have q3 : decide ((k : Int) < (n0 : Int)) = false := decide_eq_false (by omega)
        have hkn : k = n0 := by omega
        have hM := mixL_all T U
        have hHI := HI.out
        rw [hkn, List.take_of_length_le (by rw [HLN.out.1]; omega)] at hHI
        generalize mixL T U (chL T U) = TM at *
        have hEq : ∀ W, (Op.equalIn 10000 26 (tabV TM) (tabV U)).run Try.prog W = .ok true W := fun W => by
          have h := run_eqT TM U W
          rw [hM] at h
          exact h
        have l1 := ld_tab hHI.2.2.2.2.2
        have l2 := ld_tab hHI.2.2.1
        have t0 := nb_cell hHI.2.1 (show 0 < 65 by omega)
        have KR := Lib.hid (sRight_any (T 0) (U 0) S1 n0 c1 rs HN.out (by have := HLN.out; omega) wr (SRow.of_own rowC_len (by decide) hHI.2.2.2.2.1))
        rw [HOK.out] at KR
        have HLO := Lib.hid hHI.1
        clear hHI hM HI hkn
        go_wp2_with (first
          | (go_at_call 20; (with_reducible refine KR.out.mono ?_); rintro e w8 ⟨rfl, m8⟩)
          | (go_at_call 9; (with_reducible refine (WKS.out _).mono ?_); rintro e w9 ⟨rfl, m9⟩))
        go_ret
        exact ⟨rfl, HLO.out.trans ((m8.trans (m9.mono m8.size)).mono HLO.out.size)⟩
  · have hq := HQ.out
    unfold dlS at hq
    rw [if_neg hall] at hq
    simp only [Prod.mk.injEq] at hq
    obtain ⟨rfl, rfl, rfl, rfl⟩ := hq
    have hn0 : n0 = 0 := by have := HN.out; simpa using this.symm
    subst hn0
    have HA := Lib.hid hall
    clear hall
    go_wp2_with fail
    refine KR.out.mono ?_
    rintro e w2 ⟨rfl, m2⟩
    have HB2 := Lib.hid (show Below w.heap.size w w2 ∧ NB w.heap.size 26 65 T w2 ∧ NB (w.heap.size + 1) 26 65 U w2 ∧ w2.heap[b5]? = some (.cells #[.int .i64 0, .int .i64 0, .slice S1 0 c1] 29 (0, 0)) from
      ⟨HB1.out.1.trans (m2.mono HB1.out.1.size), nb_below HB1.out.2.1 m2, nb_below HB1.out.2.2.1 m2, bb HB1.out.2.2.2.1 m2⟩)
    clear m2 HB1 l1 KR
    cases gT
    · obtain ⟨q0, q1, q2⟩ := sh_cells _ _ _ _ _ HB2.out.2.2.2
      go_wp2_with (first
        | (go_at_call 9; (with_reducible refine (WKS.out _).mono ?_); rintro e w9 ⟨rfl, m9⟩))
      go_ret
      exact ⟨rfl, HB2.out.1.trans (m9.mono HB2.out.1.size)⟩
    have l2 := ld_tab HB2.out.2.2.1
    have KR2 := Lib.hid (hgU ▸ r10Right_any U w2)
    go_wp2_with fail
    refine KR2.out.mono ?_
    rintro e w3 ⟨rfl, m3⟩
    have HB3 := Lib.hid (show Below w.heap.size w w3 ∧ NB w.heap.size 26 65 T w3 ∧ NB (w.heap.size + 1) 26 65 U w3 ∧ w3.heap[b5]? = some (.cells #[.int .i64 0, .int .i64 0, .slice S1 0 c1] 29 (0, 0)) from
      ⟨HB2.out.1.trans (m3.mono HB2.out.1.size), nb_below HB2.out.2.1 m3, nb_below HB2.out.2.2.1 m3, bb HB2.out.2.2.2 m3⟩)
    clear m3 HB2 l2 KR2
    cases gU
    · obtain ⟨q0, q1, q2⟩ := sh_cells _ _ _ _ _ HB3.out.2.2.2
      go_wp2_with (first
        | (go_at_call 9; (with_reducible refine (WKS.out _).mono ?_); rintro e w9 ⟨rfl, m9⟩))
      go_ret
      exact ⟨rfl, HB3.out.1.trans (m9.mono HB3.out.1.size)⟩
    have hg0 : decide (U 0 ≤ T 0) = true := by
      refine decide_eq_true ?_
      have h := HA.out
      rw [hgT, hgU] at h
      simp at h
      omega
    have t0 := nb_cell HB3.out.2.1 (show 0 < 65 by omega)
    have u0 := nb_cell HB3.out.2.2.1 (show 0 < 65 by omega)
    obtain ⟨q0, q1, q2⟩ := sh_cells _ _ _ _ _ HB3.out.2.2.2
    go_wp2_with (first
      | (go_at_call 9; (with_reducible refine (WKS.out _).mono ?_); rintro e w9 ⟨rfl, m9⟩))
    go_ret
    exact ⟨rfl, HB3.out.1.trans (m9.mono HB3.out.1.size)⟩
end Go.Proofs.Ytiaikacfdbcmmaa
