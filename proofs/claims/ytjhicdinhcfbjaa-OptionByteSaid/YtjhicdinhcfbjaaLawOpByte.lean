/- 'handfastlaw06.OptionByte' returns true at every option, place and byte, and leaves what lay as it lay. -/
import Derived.Test.YtjhicdinhcfbjaaOpW
import Derived.Test.YtjhicdinhcfbjaaOpL
import Derived.Test.YtjhicdinhcfbjaaOpEq
namespace Go.Proofs.Ytjhicdinhcfbjaa
open Go.RowKit Go.Shelf
open SumM

set_option maxRecDepth 100000 in
set_option maxHeartbeats 16000000 in
theorem oByte_walk (kd bu cu pv ge ti : Int) (at0 : Int) (c : Int) (w : World) (H : ONums kd bu cu pv ge ti) (ha0 : (Lit.int .i64 at0).wf = true) (hc0 : (Lit.int .u8 c).wf = true) :
    Calls Try.prog 5 #[.agg #[.int .u8 kd, .int .u8 bu, .int .i64 cu, .int .i64 pv, .int .i64 ge, .int .i64 ti], .int .i64 at0, .int .u8 c] w fun e w' => e = .returned (.bool true) ∧ Below w.heap.size w w' := by
  have hc := wf_u8.1 hc0
  have ha := wf_i64.1 ha0
  have bO := heap_alloc_new w (.cells #[.int .u8 kd, .int .u8 bu, .int .i64 cu, .int .i64 pv, .int .i64 ge, .int .i64 ti] 23)
  have L0 := (Below.refl w.heap.size w).alloc (Nat.le_refl _) (.cells #[.int .u8 kd, .int .u8 bu, .int .i64 cu, .int .i64 pv, .int .i64 ge, .int .i64 ti] 23)
  have TW := Lib.hid (fun W => owakes_any W)
  have HH := Lib.hid H
  have HC := Lib.hid hc
  obtain ⟨q0, q1, q2, q3, q4, q5⟩ := o_cells _ _ _ _ _ _ bO
  clear H ha0 hc0
  go_enter Try.func5, Try.ntmps5
  go_upto_region 1 with (fail)
  generalize (w.alloc (.cells #[.int .u8 kd, .int .u8 bu, .int .i64 cu, .int .i64 pv, .int .i64 ge, .int .i64 ti] 23)) = W0 at *
  go_wp2_with (fail)
  by_cases hok : optOk kd bu cu pv ge ti = true
  · have hlen : (optB kd bu cu pv ge ti).length = 16 := rfl
    refine (oPut_yes kd bu cu pv ge ti HH.out hok W0).mono ?_
    rintro e w2 ⟨A2, c2, rfl, hc2, hcm2, R2, m2⟩
    have L2 := L0.trans (m2.mono L0.size)
    have bO2 := (m2.block _ (Array.getElem?_eq_some_iff.1 bO).1).trans bO
    clear q0 q1 q2 q3 q4 q5 bO L0 m2
    obtain ⟨q0, q1, q2, q3, q4, q5⟩ := o_cells _ _ _ _ _ _ bO2
    have hp16 : (optB kd bu cu pv ge ti).length = 16 := rfl
    obtain ⟨bs, hbs⟩ : ∃ x, optB kd bu cu pv ge ti = x := ⟨_, rfl⟩
    rw [hbs] at R2 hp16
    have HBS := Lib.hid hbs
    have HOK := Lib.hid hok
    clear hbs hok hlen
    obtain ⟨b, off, rfl, hb, _⟩ := R2.2 (by omega)
    have HP16 := Lib.hid hp16
    clear hp16
    obtain ⟨i0, hi, hz0, hz1, hz2⟩ := info_parts Try.infoU8
    obtain ⟨m', q, hq1, hq2, hq3, ⟨hq4, hq5⟩, hq⟩ := at_mod at0 16 (by omega) (by omega)
    have hq16 : (((16 : Nat) : Int)) = 16 := rfl
    rw [hq16] at hq1 hq4 hq5
    go_upto_region 7 with (fail)
    have R4 := R2
    go_upto_region 8 with (at_builtin; refine wpList_append_row _ rfl (.tmp 32) (.tmp 33) 26 rfl w2.heap.size 5 i0 (.int .u8 0) 1 Try.underlying26 hi hz0 hz1 hz2 rfl _ 0 [] rfl (own_built w2 w2.heap.size (Nat.le_refl _) 5 [] 0 rfl (by unfold maxLen; omega)) .u8 _ (some ⟨b, off, none⟩) 16 c2 bs rfl HP16.out (R4.allocS _) (fun h => by cases h) (by unfold maxLen; omega) (by omega) (by simp) ?_; intro v5 w5 O5 g5; simp only [Nat.zero_add, List.nil_append] at O5; have M5 := ((Below.refl w2.heap.size w2).alloc (Nat.le_refl _) (.cells #[] 5)).grown g5 (by simp) (fun j hj => by cases hj; exact Nat.le_refl _); obtain ⟨g, cp, rfl, hg⟩ := own_form O5 (by omega))
    have hv1 := own_cell O5 q (by omega)
    have hw1 := O5.frozenAt q
    go_upto_region 9 with (fail)
    have O6 := own_store O5 q c
    have M6 := M5.setCell (p := ⟨g, q, none⟩) hg (.int .u8 c)
    have L6 := L2.trans (M6.mono L2.size)
    have C6 := own_cap O6
    have hin := optB_in (cu := cu) (pv := pv) (ge := ge) (ti := ti) HH.out.h1 HH.out.h2
    rw [HBS.out] at hin
    have R6 := Row.of_own O6 (in_wf8 (in_set hin q c HC.out))
    have hl6 : (bs.set q c).length = 16 := by rw [List.length_set, HP16.out]
    have bO6 := (M6.block _ (Array.getElem?_eq_some_iff.1 bO2).1).trans bO2
    have RP6 := Lib.hid ((R4.below M6).more M6.size)
    have hx := opt_same HOK.out q hq c
    have hy := opt_other (kd := kd) (bu := bu) (cu := cu) (pv := pv) (ge := ge) (ti := ti) q hq c
    rw [HBS.out] at hx hy
    have HX := Lib.hid hx
    have HY := Lib.hid hy
    clear hx hy hin
    generalize w5.setCell ⟨g, q, none⟩ (.int .u8 c) = w6 at *
    clear hv1 hw1 O5 M5 g5 R4 M6 O6 R2 L2 bO2 hq1 hq2 hq3 hq4 hq5 hi hz0 hz1 hz2 hb hq16 q0 q1 q2 q3 q4 q5
    go_wp2_with (fail)
    refine (oTake_any (some ⟨g, 0, none⟩) 16 cp (bs.set q c) hl6 C6.1 C6.2 w6 R6).mono ?_
    unfold OTakeRet
    rintro e w7 ⟨rfl, m7⟩
    have L7 := L6.trans (m7.mono L6.size)
    have bO7 := (m7.block _ (Array.getElem?_eq_some_iff.1 bO6).1).trans bO6
    have RP7 := Lib.hid ((RP6.out.below m7).more m7.size)
    clear m7 L6 bO6 RP6 R6 C6 hl6
    obtain ⟨y, hyd⟩ : ∃ y, otY (bs.set q c) = y := ⟨_, rfl⟩
    obtain ⟨⟨f0, f1, f2, f3, f4, f5⟩, hfd⟩ : ∃ f, otF (bs.set q c) = f := ⟨_, rfl⟩
    obtain ⟨v, hvd⟩ : ∃ v, bs[q]?.getD 0 = v := ⟨_, rfl⟩
    have hx := HX.out
    have hy := HY.out
    rw [hyd, hfd, hvd] at hx hy
    rw [hyd, hfd]
    clear HX HY hyd hfd
    have bQ := heap_alloc_new w7 (.cells #[.int .u8 f0, .int .u8 f1, .int .i64 f2, .int .i64 f3, .int .i64 f4, .int .i64 f5] 23)
    have bO8 := (Below.heap_alloc w7 (.cells #[.int .u8 f0, .int .u8 f1, .int .i64 f2, .int .i64 f3, .int .i64 f4, .int .i64 f5] 23) w.heap.size (Array.getElem?_eq_some_iff.1 bO7).1).trans bO7
    have L8 := L7.alloc L7.size (.cells #[.int .u8 f0, .int .u8 f1, .int .i64 f2, .int .i64 f3, .int .i64 f4, .int .i64 f5] 23)
    have RP8 := RP7.out.allocS (.cells #[.int .u8 f0, .int .u8 f1, .int .i64 f2, .int .i64 f3, .int .i64 f4, .int .i64 f5] 23)
    have hp : (w7.alloc (.cells #[.int .u8 f0, .int .u8 f1, .int .i64 f2, .int .i64 f3, .int .i64 f4, .int .i64 f5] 23)).cell? ⟨b, off + q, none⟩ = some (.int .u8 v) := by
      obtain ⟨b', off', e, _, hc'⟩ := RP8.2 (by rw [HP16.out]; omega)
      cases e
      rw [hc' q (by rw [HP16.out]; exact hq), hvd]
    clear L7 bO7 RP7 RP8 hvd
    go_upto_region 10 with (fail)
    generalize w7.alloc (.cells #[.int .u8 f0, .int .u8 f1, .int .i64 f2, .int .i64 f3, .int .i64 f4, .int .i64 f5] 23) = W8 at *
    generalize w7.heap.size = bq at *
    have i1 : (q : Int) < 16 := by omega
    have CS := Lib.hid (fun W (m : Below W8.heap.size W8 W) => show W.cell? ⟨b, off + q, none⟩ = some (.int .u8 v) from (m.cell (p := ⟨b, off + q, none⟩) (by simpa using (World.block_lt_of_cell? W8 ⟨b, off + q, none⟩ hp))).trans hp)
    have n0 := (Below.refl W8.heap.size W8).drew
    have HL8 := Lib.hid L8
    by_cases h2 : q < 2
    · have p2 : decide ((q : Int) < 2) = true := decide_eq_true (by omega)
      obtain ⟨s, t1, t2⟩ : ∃ s : Bool, (y == 0) = s ∧ (c == v) = s := by
        by_cases hcv : c = v
        · exact ⟨true, by simp [(hx hcv).1], by simp [hcv]⟩
        · exact ⟨false, by simpa using (hy hcv).1 h2, by simpa using hcv⟩
      have t3 : (s == s) = true := by simp
      clear hx hy h2 bQ bO8 L8
      go_wp2_with (go_at_call 8; (with_reducible refine (TW.out _).mono ?_); rintro e v1 ⟨rfl, j1⟩)
      go_ret
      exact ⟨rfl, HL8.out.trans (j1.mono HL8.out.size)⟩
    · have p2 : decide ((q : Int) < 2) = false := decide_eq_false (by omega)
      have E1 : ∀ W, (Go.binOp .eql 23 (.agg #[.int .u8 f0, .int .u8 f1, .int .i64 f2, .int .i64 f3, .int .i64 f4, .int .i64 f5]) (.agg #[.int .u8 kd, .int .u8 bu, .int .i64 cu, .int .i64 pv, .int .i64 ge, .int .i64 ti])).run Try.prog W = .ok (.bool (eqO f0 f1 f2 f3 f4 f5 kd bu cu pv ge ti)) W := fun W => run_eqO f0 f1 f2 f3 f4 f5 kd bu cu pv ge ti W
      obtain ⟨eb, heb⟩ : ∃ eb, eqO f0 f1 f2 f3 f4 f5 kd bu cu pv ge ti = eb := ⟨_, rfl⟩
      rw [heb] at E1
      have hcase : ((y == 0) = true ∧ eb = true ∧ (c == v) = true) ∨ ((y == 0) = true ∧ eb = false ∧ (c == v) = false) ∨ ((y == 0) = false ∧ (c == v) = false) := by
        by_cases hcv : c = v
        · obtain ⟨h1, h3⟩ := hx hcv
          simp only [Prod.mk.injEq] at h3
          exact .inl ⟨by simp [h1], by rw [← heb]; exact decide_eq_true h3, by simp [hcv]⟩
        · by_cases hy0 : y = 0
          · have h3 := (hy hcv).2 hy0
            simp only [ne_eq, Prod.mk.injEq] at h3
            exact .inr (.inl ⟨by simp [hy0], by rw [← heb]; exact decide_eq_false h3, by simpa using hcv⟩)
          · exact .inr (.inr ⟨by simpa using hy0, by simpa using hcv⟩)
      have CT := Lib.hid (fun W (m : Below W8.heap.size W8 W) => show W.cell? ⟨b, off + q, none⟩ = some (.int .u8 v) ∧ (W.cell? ⟨w.heap.size, 0, none⟩ = some (.int .u8 kd) ∧ W.cell? ⟨w.heap.size, 1, none⟩ = some (.int .u8 bu) ∧ W.cell? ⟨w.heap.size, 2, none⟩ = some (.int .i64 cu) ∧ W.cell? ⟨w.heap.size, 3, none⟩ = some (.int .i64 pv) ∧ W.cell? ⟨w.heap.size, 4, none⟩ = some (.int .i64 ge) ∧ W.cell? ⟨w.heap.size, 5, none⟩ = some (.int .i64 ti)) ∧ (W.cell? ⟨bq, 0, none⟩ = some (.int .u8 f0) ∧ W.cell? ⟨bq, 1, none⟩ = some (.int .u8 f1) ∧ W.cell? ⟨bq, 2, none⟩ = some (.int .i64 f2) ∧ W.cell? ⟨bq, 3, none⟩ = some (.int .i64 f3) ∧ W.cell? ⟨bq, 4, none⟩ = some (.int .i64 f4) ∧ W.cell? ⟨bq, 5, none⟩ = some (.int .i64 f5)) from
        ⟨CS.out W m, o_cells _ _ _ _ _ _ ((m.block _ (Array.getElem?_eq_some_iff.1 bO8).1).trans bO8), o_cells _ _ _ _ _ _ ((m.block _ (Array.getElem?_eq_some_iff.1 bQ).1).trans bQ)⟩)
      clear hx hy h2 bQ bO8 L8 heb CS hp
      rcases hcase with ⟨t1, rfl, t2⟩ | ⟨t1, rfl, t2⟩ | ⟨t1, t2⟩
      case inr.inr =>
        go_wp2_with (fail)
        obtain ⟨hp0, ⟨a0, a1, a2, a3, a4, a5⟩, ⟨b0, b1, b2, b3, b4, b5⟩⟩ := CT.out _ n0
        first
          | (go_region_with (first
              | (go_at_call 8; (with_reducible refine (TW.out _).mono ?_); rintro e v1 ⟨rfl, j1⟩; have n1 := n0.trans (j1.mono n0.size); obtain ⟨hp0, ⟨a0, a1, a2, a3, a4, a5⟩, ⟨b0, b1, b2, b3, b4, b5⟩⟩ := CT.out _ n1)))
          | fail
        all_goals
          go_wp2
          go_ret
          exact ⟨rfl, HL8.out.trans (n1.mono HL8.out.size)⟩
      all_goals
        go_wp2_with (fail)
        go_region_held3 (fun W => W.cell? ⟨b, off + q, none⟩ = some (.int .u8 v) ∧ (W.cell? ⟨w.heap.size, 0, none⟩ = some (.int .u8 kd) ∧ W.cell? ⟨w.heap.size, 1, none⟩ = some (.int .u8 bu) ∧ W.cell? ⟨w.heap.size, 2, none⟩ = some (.int .i64 cu) ∧ W.cell? ⟨w.heap.size, 3, none⟩ = some (.int .i64 pv) ∧ W.cell? ⟨w.heap.size, 4, none⟩ = some (.int .i64 ge) ∧ W.cell? ⟨w.heap.size, 5, none⟩ = some (.int .i64 ti)) ∧ (W.cell? ⟨bq, 0, none⟩ = some (.int .u8 f0) ∧ W.cell? ⟨bq, 1, none⟩ = some (.int .u8 f1) ∧ W.cell? ⟨bq, 2, none⟩ = some (.int .i64 f2) ∧ W.cell? ⟨bq, 3, none⟩ = some (.int .i64 f3) ∧ W.cell? ⟨bq, 4, none⟩ = some (.int .i64 f4) ∧ W.cell? ⟨bq, 5, none⟩ = some (.int .i64 f5))) (first | with_reducible exact CT.out _ n1 | with_reducible exact CT.out _ n0)
          (first
            | (go_at_call 8; (with_reducible refine (TW.out W8.drew).mono ?_); rintro e v1 ⟨rfl, j1⟩; have n1 := n0.trans (j1.mono n0.size)))
        go_wp2
        go_ret
        exact ⟨rfl, HL8.out.trans (n1.mono HL8.out.size)⟩
  · have hok' : optOk kd bu cu pv ge ti = false := by simpa using hok
    have KR := Lib.hid (fun W => show Calls Try.prog 17 #[.agg #[.int .u8 kd, .int .u8 bu, .int .i64 cu, .int .i64 pv, .int .i64 ge, .int .i64 ti]] W fun e w' => e = .returned (.bool false) ∧ Below W.heap.size W w' from by
      have h := oRight_any kd bu cu pv ge ti HH.out W
      rwa [hok'] at h)
    refine (oPut_no kd bu cu pv ge ti HH.out hok' W0).mono ?_
    rintro e w2 ⟨A2, c2, rfl, m2⟩
    have L2 := L0.trans (m2.mono L0.size)
    have bO2 := (m2.block _ (Array.getElem?_eq_some_iff.1 bO).1).trans bO
    clear q0 q1 q2 q3 q4 q5 bO L0 m2 hok hok'
    obtain ⟨q0, q1, q2, q3, q4, q5⟩ := o_cells _ _ _ _ _ _ bO2
    have HL := Lib.hid L2
    clear L2 bO2
    go_wp2_with (first
      | (go_at_call 17; (with_reducible refine (KR.out _).mono ?_); rintro e w3 ⟨rfl, m3⟩)
      | (go_at_call 8; (with_reducible refine (TW.out _).mono ?_); rintro e w4 ⟨rfl, m4⟩))
    go_ret
    exact ⟨rfl, HL.out.trans ((m3.trans (m4.mono m3.size)).mono HL.out.size)⟩
end Go.Proofs.Ytjhicdinhcfbjaa
