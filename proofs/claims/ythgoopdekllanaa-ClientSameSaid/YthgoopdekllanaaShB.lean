/- Sheets: Right, of package sheet and the document's. -/
import Derived.Test.YthgoopdekllanaaShA
namespace Go.Proofs.Ythgoopdekllanaa
open Go.RowKit Go.Shelf
open SumM

theorem ltD (a b : Int) : decide (a < b) = !decide (b ≤ a) := by
  by_cases h : a < b
  · rw [decide_eq_true h, decide_eq_false (by omega)]; rfl
  · rw [decide_eq_false h, decide_eq_true (by omega)]; rfl

set_option maxRecDepth 100000 in
set_option maxHeartbeats 8000000 in
theorem sRight_any (ba tv : Int) (sa : Option Addr) (sn sc : Nat) (rs : List SR) (hl : rs.length = sn) (hs : sn ≤ 4000000) (w : World) (h : SRow5 w.heap.size w sa rs) :
    Calls Try.prog 21 #[.agg #[.int .i64 ba, .int .i64 tv, .slice sa sn sc]] w fun e w' => e = .returned (.bool (shOk ba tv rs)) ∧ Below w.heap.size w w' := by
  have HL := Lib.hid hl
  have HR := Lib.hid h
  clear hl h
  have bS := heap_alloc_new w (.cells #[.int .i64 ba, .int .i64 tv, .slice sa sn sc] 29)
  have L0 := Lib.hid ((Below.refl w.heap.size w).alloc (Nat.le_refl _) (.cells #[.int .i64 ba, .int .i64 tv, .slice sa sn sc] 29))
  obtain ⟨q0, q1, q2⟩ := sh_cells _ _ _ _ _ bS
  have EX : ∃ t1 t2 b1 b2 n1 n2 : Bool, decide (tv < 0) = t1 ∧ decide ((1099511627776 : Int) < tv) = t2 ∧ decide (ba < -1) = b1 ∧ decide (tv ≤ ba) = b2 ∧ (ba == -1) = n1 ∧ ((sn : Int) != 16) = n2 ∧
      shOk ba tv rs = (!t1 && !t2 && !b1 && !b2 && !(n1 && n2) && rises (-1) rs) := by
    refine ⟨_, _, _, _, _, _, rfl, rfl, rfl, rfl, rfl, rfl, ?_⟩
    unfold shOk
    rw [HL.out]
    congr 1
    refine Bool.iffEq ?_
    simp only [Bool.and_eq_true, Bool.or_eq_true, Bool.not_eq_true', decide_eq_false_iff_not, decide_eq_true_eq, Bool.and_eq_false_iff, beq_eq_false_iff_ne, bne_eq_false_iff_eq, ne_eq]
    omega
  obtain ⟨t1, t2, b1, b2, n1, n2, e1, e2, e3, e4, e5, e6, he⟩ := EX
  have HE := Lib.hid he
  clear he bS
  go_enter Try.func21, Try.ntmps21
  go_wp2_with fail
  generalize w.alloc (.cells #[.int .i64 ba, .int .i64 tv, .slice sa sn sc] 29) = W0 at *
  refine wp_scope_jumps 0 (fun a' w' => Below w.heap.size w w' ∧ shOk ba tv rs = false ∧ ∃ (u0 u1 u3 u4 u5 u6 u7 u8 u9 u10 u11 u12 u13 u14 u15 u16 u17 u18 u19 u20 u21 u22 u23 u24 u25 u26 u27 u28 u29 u30 u31 u32 u33 u34 u35 u36 u37 u38 u39 u40 u41 u42 u43 u44 u45 u46 u47 u48 u49 u50 u51 u52 u53 u54 u55 u56 u57 u58 u59 : Value), a' = { tmps := #[u0, u1, .bool false, u3, u4, u5, u6, u7, u8, u9, u10, u11, u12, u13, u14, u15, u16, u17, u18, u19, u20, u21, u22, u23, u24, u25, u26, u27, u28, u29, u30, u31, u32, u33, u34, u35, u36, u37, u38, u39, u40, u41, u42, u43, u44, u45, u46, u47, u48, u49, u50, u51, u52, u53, u54, u55, u56, u57, u58, u59], defers := [] }) (fun _ _ => 0) rfl ?first ?pass
  case pass =>
    rintro a' w' ⟨LL, hf, u0, u1, u3, u4, u5, u6, u7, u8, u9, u10, u11, u12, u13, u14, u15, u16, u17, u18, u19, u20, u21, u22, u23, u24, u25, u26, u27, u28, u29, u30, u31, u32, u33, u34, u35, u36, u37, u38, u39, u40, u41, u42, u43, u44, u45, u46, u47, u48, u49, u50, u51, u52, u53, u54, u55, u56, u57, u58, u59, rfl⟩
    have HF := Lib.hid (And.intro LL hf)
    clear LL hf
    go_wp2
    simp only [Exit.jump]
    exact bodyPost_ret (results_tmp rfl _ _ _) rfl ⟨by rw [HF.out.2]; rfl, HF.out.1⟩
  case first =>
    cases t1
    rotate_left
    · go_wp2
      go_step3
      exact ⟨rfl, L0.out, HE.out, _, _, _, _, _, _, _, _, _, _, _, _, _, _, _, _, _, _, _, _, _, _, _, _, _, _, _, _, _, _, _, _, _, _, _, _, _, _, _, _, _, _, _, _, _, _, _, _, _, _, _, _, _, _, _, _, _, _, _, rfl⟩
    cases t2
    rotate_left
    · go_wp2
      go_step3
      exact ⟨rfl, L0.out, HE.out, _, _, _, _, _, _, _, _, _, _, _, _, _, _, _, _, _, _, _, _, _, _, _, _, _, _, _, _, _, _, _, _, _, _, _, _, _, _, _, _, _, _, _, _, _, _, _, _, _, _, _, _, _, _, _, _, _, _, _, rfl⟩
    cases b1
    rotate_left
    · go_wp2
      go_step3
      exact ⟨rfl, L0.out, HE.out, _, _, _, _, _, _, _, _, _, _, _, _, _, _, _, _, _, _, _, _, _, _, _, _, _, _, _, _, _, _, _, _, _, _, _, _, _, _, _, _, _, _, _, _, _, _, _, _, _, _, _, _, _, _, _, _, _, _, _, rfl⟩
    cases b2
    rotate_left
    · go_wp2
      go_step3
      exact ⟨rfl, L0.out, HE.out, _, _, _, _, _, _, _, _, _, _, _, _, _, _, _, _, _, _, _, _, _, _, _, _, _, _, _, _, _, _, _, _, _, _, _, _, _, _, _, _, _, _, _, _, _, _, _, _, _, _, _, _, _, _, _, _, _, _, _, rfl⟩
    have HN : (n1 && n2) = false ∨ (n1 = true ∧ n2 = true) := by cases n1 <;> cases n2 <;> simp
    rcases HN with hn | ⟨rfl, rfl⟩
    rotate_left
    · go_wp2
      go_step3
      exact ⟨rfl, L0.out, HE.out, _, _, _, _, _, _, _, _, _, _, _, _, _, _, _, _, _, _, _, _, _, _, _, _, _, _, _, _, _, _, _, _, _, _, _, _, _, _, _, _, _, _, _, _, _, _, _, _, _, _, _, _, _, _, _, _, _, _, _, rfl⟩
    have hE : shOk ba tv rs = rises (-1) rs := by rw [HE.out, hn]; simp
    have HE := Lib.hid hE
    have hn : n1 = false ∨ (n1 = true ∧ n2 = false) := by cases n1 <;> cases n2 <;> simp_all
    rcases hn with rfl | ⟨rfl, rfl⟩
    all_goals
      clear hE
      go_wp2
      clear e1 e2 e3 e4 e5 e6
      go_loopw [3, 38] (fun l i wr => ∃ k : Nat, k ≤ sn ∧ i = .int .i64 k ∧ l = .int .i64 (lastB rs k) ∧ shOk ba tv rs = rises (lastB rs k) (rs.drop k) ∧ Below w.heap.size w wr) (fun _ i _ => sn - (intOf i).toNat)
      case atStart => exact ⟨0, Nat.zero_le _, rfl, rfl, HE.out, L0.out⟩
      case round =>
        obtain ⟨k, hk, rfl, rfl, hr, L⟩ := hrel
        clear q0 q1 q2
        have HB := Lib.hid L
        clear L
        by_cases hlt : k < sn
        · have hku : k < rs.length := by rw [HL.out]; exact hlt
          obtain ⟨b, off, rfl, _⟩ := sr_addr HR.out (by omega)
          obtain ⟨q0, q1, q2, q3, q4⟩ := sr_at (HR.out.below HB.out) k hku
          rw [rises_drop hku] at hr
          have hN := Lib.hid (lastB_succ rs k)
          have hk0 : (0 : Int) ≤ (k : Int) := by omega
          have hk1 : (k : Int) < (sn : Int) := by omega
          generalize lastB rs k = l at *
          generalize rs[k]?.getD sr0 = u at *
          obtain ⟨u0, u1, u2, u3, u4⟩ := u
          have hd := heap_alloc_new wr (.cells #[.int .i64 u0, .int .i64 u1, .int .i64 u2, .int .i64 u3, .int .i64 u4] 63)
          obtain ⟨x0, x1, x2, x3, x4⟩ := sr_cells _ _ _ _ _ hd
          have hz := heap_alloc_new wr (.cells #[.int .i64 0, .int .i64 0, .int .i64 0, .int .i64 0, .int .i64 0] 63)
          obtain ⟨z0, z1, z2, z3, z4⟩ := sr_cells _ _ _ _ _ hz
          have f0 := ent_frozen hz 0
          have f1 := ent_frozen hz 1
          have f2 := ent_frozen hz 2
          have f3 := ent_frozen hz 3
          have f4 := ent_frozen hz 4
          obtain ⟨p1, e1⟩ : ∃ p1, decide (u0 ≤ l) = p1 := ⟨_, rfl⟩
          obtain ⟨p2, e2⟩ : ∃ p2, decide ((16 : Int) ≤ u0) = p2 := ⟨_, rfl⟩
          obtain ⟨g, hg⟩ : ∃ g, rgt u1 u2 u3 u4 = g := ⟨_, rfl⟩
          have KR := Lib.hid (fun W => hg ▸ eRight_any u1 u2 u3 u4 W)
          have hr2 : shOk ba tv rs = (!p1 && !p2 && g && rises u0 (rs.drop (k + 1))) := by
            rw [hr, ltD l u0, e1, ltD u0 16, e2, ← hg]
            rfl
          have HRR := Lib.hid hr2
          clear hr hr2 hg hd hz
          cases p1
          rotate_left
          · go_wp2
            go_step3
            exact ⟨rfl, HB.out.alloc HB.out.size _, by rw [HRR.out]; rfl, _, _, _, _, _, _, _, _, _, _, _, _, _, _, _, _, _, _, _, _, _, _, _, _, _, _, _, _, _, _, _, _, _, _, _, _, _, _, _, _, _, _, _, _, _, _, _, _, _, _, _, _, _, _, _, _, _, _, _, rfl⟩
          cases p2
          rotate_left
          · go_wp2
            go_step3
            exact ⟨rfl, HB.out.alloc HB.out.size _, by rw [HRR.out]; rfl, _, _, _, _, _, _, _, _, _, _, _, _, _, _, _, _, _, _, _, _, _, _, _, _, _, _, _, _, _, _, _, _, _, _, _, _, _, _, _, _, _, _, _, _, _, _, _, _, _, _, _, _, _, _, _, _, _, _, _, rfl⟩
          have HA := Lib.hid (HB.out.alloc HB.out.size (.cells #[.int .i64 u0, .int .i64 u1, .int .i64 u2, .int .i64 u3, .int .i64 u4] 63))
          have hA := heap_alloc_new wr (.cells #[.int .i64 u0, .int .i64 u1, .int .i64 u2, .int .i64 u3, .int .i64 u4] 63)
          cases g
          · go_wp2_with (go_at_call 54; (with_reducible refine (KR.out _).mono ?_); rintro e w1 ⟨rfl, m1⟩)
            go_step3
            exact ⟨rfl, HA.out.trans (m1.mono HA.out.size), by rw [HRR.out]; rfl, _, _, _, _, _, _, _, _, _, _, _, _, _, _, _, _, _, _, _, _, _, _, _, _, _, _, _, _, _, _, _, _, _, _, _, _, _, _, _, _, _, _, _, _, _, _, _, _, _, _, _, _, _, _, _, _, _, _, _, rfl⟩
          · go_upto_region 8 with (go_at_call 54; (with_reducible refine (KR.out _).mono ?_); rintro e w1 ⟨rfl, m1⟩)
            have hA1 := (m1.block _ (Array.getElem?_eq_some_iff.1 hA).1).trans hA
            obtain ⟨y0, _, _, _, _⟩ := sr_cells _ _ _ _ _ hA1
            have HM := Lib.hid (HA.out.trans (m1.mono HA.out.size))
            clear x0 x1 x2 x3 x4 hA hA1 m1
            go_wp2
            go_roundw
            case rel => exact ⟨k + 1, by omega, by go_num, by rw [hN.out], by rw [HRR.out, hN.out]; rfl, HM.out⟩
            case measure => simp [intOf]; omega
        · obtain rfl : k = sn := by omega
          have hr2 : shOk ba tv rs = true := by
            rw [hr, show rs.drop k = [] from List.drop_eq_nil_of_le (by rw [HL.out]; exact Nat.le_refl _)]
            rfl
          have HRR := Lib.hid hr2
          clear hr hr2
          go_wp2
          simp only [Exit.jump]
          exact bodyPost_ret (results_tmp rfl _ _ _) rfl ⟨by rw [HRR.out]; rfl, HB.out⟩

end Go.Proofs.Ythgoopdekllanaa
