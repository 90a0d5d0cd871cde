/- The document's own Take of options. -/
import Derived.Test.YthenbpnlmpeafaaDoorOpC
namespace Go.Proofs.YthenbpnlmpeafaaDoor
open Go.RowKit Go.Shelf
open SumM

theorem Tryd.infoOpt : (Tryd.prog.info? 26).map (·.size) = some 6 := by kernel_rfl
theorem results_o {fn : Func} {p u : Tmp} (h : fn.results = #[.cell p 26, .tmp u]) (tmps : Array Value) (w : World) (g : Nat) (cs : Array Value) (fr : Nat × Nat)
    (hp : tmps.getD p undef = .pointer (some ⟨g, 0, none⟩)) (hg : w.heap[g]? = some (.cells cs 26 fr)) (h9 : cs.size = 6) :
    (results fn tmps).run Tryd.prog w = .ok (.tuple #[.agg cs, tmps.getD u undef]) w := by
  rw [results_cell_tmp h, hp]
  simp only [asAddr, Sem.run_pure, Result.andThen_ok]
  rw [run_loadVar_row w g 26 26 cs fr _ hg Tryd.underlying26 rfl (by rw [h9]; exact Tryd.infoOpt)]
  rfl

theorem num_lt (l : List Int) (h : In 255 l) (n : Nat) (hl : l.length ≤ n) : 0 ≤ numOf l ∧ numOf l < (256 : Int) ^ n := by
  have := numOf_in l h
  refine ⟨this.1, Int.lt_of_lt_of_le this.2 ?_⟩
  have h2 : (256 : Nat) ^ l.length ≤ 256 ^ n := Nat.pow_le_pow_right (by decide) hl
  have e : ∀ k : Nat, (256 : Int) ^ k = ((256 ^ k : Nat) : Int) := fun k => by simp
  rw [e, e]
  omega

/-- What Take answers. -/
def OTakeRet (bs : List Int) (w : World) (e : Ending) (w' : World) : Prop :=
  e = .returned (.tuple #[.agg #[.int .u8 (otF bs).1, .int .u8 (otF bs).2.1, .int .i64 (otF bs).2.2.1, .int .i64 (otF bs).2.2.2.1, .int .i64 (otF bs).2.2.2.2.1, .int .i64 (otF bs).2.2.2.2.2], .int .i64 (otY bs)]) ∧ Below w.heap.size w w'

set_option maxRecDepth 100000 in
set_option maxHeartbeats 8000000 in
theorem refOTake_any (a : Option Addr) (len cap : Nat) (bs : List Int) (hl : bs.length = len) (hlc : len ≤ cap) (w : World) (hR : Row .u8 w.heap.size w a bs) :
    Calls Tryd.prog 37 #[.slice a len cap] w (OTakeRet bs w) := by
  have HI := Lib.hid (row_in hR)
  have HL := Lib.hid hl
  have hd0 := heap_alloc_new w (.cells #[.int .u8 0, .int .u8 0, .int .i64 0, .int .i64 0, .int .i64 0, .int .i64 0] 26)
  have L0 : Below w.heap.size w (w.alloc (.cells #[.int .u8 0, .int .u8 0, .int .i64 0, .int .i64 0, .int .i64 0, .int .i64 0] 26)) := (Below.refl _ w).alloc (Nat.le_refl _) _
  obtain ⟨q0, q1, q2, q3, q4, q5⟩ := o_cells _ _ _ _ _ _ hd0
  have f0 := o_frozen hd0 0
  have f1 := o_frozen hd0 1
  have f2 := o_frozen hd0 2
  have f3 := o_frozen hd0 3
  have f4 := o_frozen hd0 4
  have f5 := o_frozen hd0 5
  have C0 := Lib.hid hd0
  have B0 := Lib.hid L0
  clear hd0
  unfold OTakeRet
  by_cases h1 : len < 16
  · have p1 : decide ((len : Int) < 16) = true := decide_eq_true (by omega)
    have HY := Lib.hid (show otY bs = 61 ∧ otF bs = (0, 0, 0, 0, 0, 0) by
      have h : otY bs = 61 := by unfold otY; rw [hl, if_pos h1]
      exact ⟨h, by unfold otF; rw [h, if_neg (by decide)]⟩)
    clear hl L0
    go_enter Tryd.func37, Tryd.ntmps37
    go_upto_region 1 with (fail)
    generalize w.alloc (.cells #[.int .u8 0, .int .u8 0, .int .i64 0, .int .i64 0, .int .i64 0, .int .i64 0] 26) = W0 at *
    go_wp2
    refine bodyPost_ret (results_o rfl _ _ w.heap.size _ (0, 0) rfl (full_setCells C0.out [.int .u8 0, .int .u8 0, .int .i64 0, .int .i64 0, .int .i64 0, .int .i64 0] rfl) rfl) rfl ?_
    rw [HY.out.1, HY.out.2]
    exact ⟨rfl, below_setCells w.heap.size (Nat.le_refl _) [.int .u8 0, .int .u8 0, .int .i64 0, .int .i64 0, .int .i64 0, .int .i64 0] 0 w _ B0.out⟩
  have p1 : decide ((len : Int) < 16) = false := decide_eq_false (by omega)
  by_cases h2 : 16 < len
  · have p2 : decide ((16 : Int) < len) = true := decide_eq_true (by omega)
    have HY := Lib.hid (show otY bs = 60 ∧ otF bs = (0, 0, 0, 0, 0, 0) by
      have h : otY bs = 60 := by unfold otY; rw [hl, if_neg h1, if_pos h2]
      exact ⟨h, by unfold otF; rw [h, if_neg (by decide)]⟩)
    clear hl L0
    go_enter Tryd.func37, Tryd.ntmps37
    go_upto_region 1 with (fail)
    generalize w.alloc (.cells #[.int .u8 0, .int .u8 0, .int .i64 0, .int .i64 0, .int .i64 0, .int .i64 0] 26) = W0 at *
    go_wp2
    refine bodyPost_ret (results_o rfl _ _ w.heap.size _ (0, 0) rfl (full_setCells C0.out [.int .u8 0, .int .u8 0, .int .i64 0, .int .i64 0, .int .i64 0, .int .i64 0] rfl) rfl) rfl ?_
    rw [HY.out.1, HY.out.2]
    exact ⟨rfl, below_setCells w.heap.size (Nat.le_refl _) [.int .u8 0, .int .u8 0, .int .i64 0, .int .i64 0, .int .i64 0, .int .i64 0] 0 w _ B0.out⟩
  obtain rfl : len = 16 := by omega
  have p2 : decide ((16 : Int) < ((16 : Nat) : Int)) = false := decide_eq_false (by omega)
  obtain ⟨b, off, rfl, hb, hc⟩ := hR.2 (by omega)
  have h2' := hc 2 (by omega)
  have h3' := hc 3 (by omega)
  have h4' := hc 4 (by omega)
  have h5' := hc 5 (by omega)
  have k2 := getD_in HI.out (by decide) 2
  have k3 := getD_in HI.out (by decide) 3
  have k4 := getD_in HI.out (by decide) 4
  have k5 := getD_in HI.out (by decide) 5
  have RR := Lib.hid (fun W (m : Below w.heap.size w W) => (hR.below m).more m.size)
  have N1 := Lib.hid (show ((bs.drop 6).take 4).length = 4 by simp; omega)
  have N2 := Lib.hid (show (bs.drop 10).length = 6 by simp; omega)
  have n1 := num_lt ((bs.drop 6).take 4) (in_take (in_drop HI.out 6) 4) 4 (by rw [N1.out]; omega)
  have n2 := num_lt (bs.drop 10) (in_drop HI.out 10) 6 (by rw [N2.out]; omega)
  have HV := Lib.hid (show otV bs = (bs[2]?.getD 0, bs[3]?.getD 0, nodeOf (bs[4]?.getD 0), nodeOf (bs[5]?.getD 0), numOf ((bs.drop 6).take 4), numOf (bs.drop 10)) from rfl)
  have CS := Lib.hid (fun W (m : Below w.heap.size w W) => show W.cell? ⟨b, off + 2, none⟩ = some (.int .u8 (bs[2]?.getD 0)) ∧ W.cell? ⟨b, off + 3, none⟩ = some (.int .u8 (bs[3]?.getD 0)) ∧ W.cell? ⟨b, off + 4, none⟩ = some (.int .u8 (bs[4]?.getD 0)) ∧ W.cell? ⟨b, off + 5, none⟩ = some (.int .u8 (bs[5]?.getD 0)) from
    ⟨(m.cell (p := ⟨b, off + 2, none⟩) hb).trans h2', (m.cell (p := ⟨b, off + 3, none⟩) hb).trans h3', (m.cell (p := ⟨b, off + 4, none⟩) hb).trans h4', (m.cell (p := ⟨b, off + 5, none⟩) hb).trans h5'⟩)
  clear hc h2' h3' h4' h5' hR q0 q1 q2 q3 q4 q5 f0 f1 f2 f3 f4 f5
  have i6 : ¬ cap = 6 := by omega
  have i10 : ¬ cap = 10 := by omega
  have j6 : (6 : Int) ≤ (cap : Int) := by omega
  have j10 : (10 : Int) ≤ (cap : Int) := by omega
  have j16 : (16 : Int) ≤ (cap : Int) := by omega
  go_enter Tryd.func37, Tryd.ntmps37
  go_upto_region 5 with (fail)
  generalize w.alloc (.cells #[.int .u8 0, .int .u8 0, .int .i64 0, .int .i64 0, .int .i64 0, .int .i64 0] 26) = W0 at *
  have KN4 := Lib.hid (fun W => r6node_any (bs[4]?.getD 0) k4 W)
  have KN5 := Lib.hid (fun W => r6node_any (bs[5]?.getD 0) k5 W)
  have KM1 := Lib.hid (fun W (m : Below w.heap.size w W) => r6number_any (some ⟨b, off + 6, none⟩) 4 (cap - 6) _ ((bs.drop 6).take 4) W (((RR.out W m).drop 6).take 4) N1.out (by omega))
  have KM2 := Lib.hid (fun W (m : Below w.heap.size w W) => r6number_any (some ⟨b, off + 10, none⟩) 6 (cap - 10) _ (bs.drop 10) W ((RR.out W m).drop 10) N2.out (by omega))
  obtain ⟨v0, hv0⟩ : ∃ x, bs[2]?.getD 0 = x := ⟨_, rfl⟩
  obtain ⟨v1, hv1⟩ : ∃ x, bs[3]?.getD 0 = x := ⟨_, rfl⟩
  obtain ⟨c4, hc4⟩ : ∃ x, bs[4]?.getD 0 = x := ⟨_, rfl⟩
  obtain ⟨c5, hc5⟩ : ∃ x, bs[5]?.getD 0 = x := ⟨_, rfl⟩
  obtain ⟨v2, hv2⟩ : ∃ x, nodeOf c4 = x := ⟨_, rfl⟩
  obtain ⟨v3, hv3⟩ : ∃ x, nodeOf c5 = x := ⟨_, rfl⟩
  obtain ⟨v4, hv4⟩ : ∃ x, numOf ((bs.drop 6).take 4) = x := ⟨_, rfl⟩
  obtain ⟨v5, hv5⟩ : ∃ x, numOf (bs.drop 10) = x := ⟨_, rfl⟩
  rw [hv0] at k2 HV
  rw [hv1] at k3 HV
  rw [hc4] at KN4 HV
  rw [hc5] at KN5 HV
  rw [hv2] at KN4 HV
  rw [hv3] at KN5 HV
  rw [hv4] at KM1 HV n1
  rw [hv5] at KM2 HV n2
  rw [hv0, hv1, hc4, hc5] at CS
  clear hv0 hv1 hc4 hc5 hv2 hv3 hv4 hv5 k4 k5
  have N0 : Below w.heap.size w W0.drew := L0.drew
  have NA : Below w.heap.size w (W0.alloc (.cells #[.int .u8 0, .int .u8 0, .int .i64 0, .int .i64 0, .int .i64 0, .int .i64 0] 26)).drew := (L0.alloc L0.size _).drew
  have NB : Below w.heap.size w (W0.alloc (.cells #[.int .u8 v0, .int .u8 v1, .int .i64 v2, .int .i64 v3, .int .i64 v4, .int .i64 v5] 26)).drew := (L0.alloc L0.size _).drew
  have hg0 : w.heap.size < W0.heap.size := (Array.getElem?_eq_some_iff.1 C0.out).1
  go_cut [4] (fun s4 wx => s4 = .pointer (some ⟨W0.heap.size, 0, none⟩) ∧ wx = (W0.alloc (.cells #[.int .u8 v0, .int .u8 v1, .int .i64 v2, .int .i64 v3, .int .i64 v4, .int .i64 v5] 26)).drew)
  case first =>
    go_region_held3 (fun W => W.cell? ⟨b, off + 2, none⟩ = some (.int .u8 v0) ∧ W.cell? ⟨b, off + 3, none⟩ = some (.int .u8 v1) ∧ W.cell? ⟨b, off + 4, none⟩ = some (.int .u8 c4) ∧ W.cell? ⟨b, off + 5, none⟩ = some (.int .u8 c5))
      (first | with_reducible exact CS.out _ N0 | with_reducible exact CS.out _ NA | with_reducible exact CS.out _ NB)
      (first
        | (go_at_call_of 61 (Value.int .u8 c4); (with_reducible refine (KN4.out _).mono ?_); rintro e w1 ⟨rfl, rfl⟩)
        | (go_at_call_of 61 (Value.int .u8 c5); (with_reducible refine (KN5.out _).mono ?_); rintro e w1 ⟨rfl, rfl⟩)
        | (go_at_call 62; (with_reducible refine (KM1.out _ N0).mono ?_); rintro e w1 ⟨rfl, rfl⟩)
        | (go_at_call 62; (with_reducible refine (KM1.out _ NA).mono ?_); rintro e w1 ⟨rfl, rfl⟩)
        | (go_at_call 62; (with_reducible refine (KM2.out _ N0).mono ?_); rintro e w1 ⟨rfl, rfl⟩)
        | (go_at_call 62; (with_reducible refine (KM2.out _ NA).mono ?_); rintro e w1 ⟨rfl, rfl⟩))
    all_goals (go_wp2_with fail; go_meet; exact ⟨rfl, rfl⟩)
  case rest =>
    obtain ⟨rfl, rfl⟩ := hcut
    have HOK := Lib.hid (show otOk bs = (optOk v0 v1 v2 v3 v4 v5 && eqB (optB v0 v1 v2 v3 v4 v5) bs) by unfold otOk; rw [HV.out])
    have HYE := Lib.hid (show otY bs = if otOk bs = true then 0 else 60 by unfold otY; rw [HL.out, if_neg (by omega), if_neg (by omega)])
    have bX := heap_alloc_new W0 (.cells #[.int .u8 v0, .int .u8 v1, .int .i64 v2, .int .i64 v3, .int .i64 v4, .int .i64 v5] 26)
    have C1 := (Below.heap_alloc W0 (.cells #[.int .u8 v0, .int .u8 v1, .int .i64 v2, .int .i64 v3, .int .i64 v4, .int .i64 v5] 26) w.heap.size hg0).trans C0.out
    have bX' : (W0.alloc (.cells #[.int .u8 v0, .int .u8 v1, .int .i64 v2, .int .i64 v3, .int .i64 v4, .int .i64 v5] 26)).drew.heap[W0.heap.size]? = some (.cells #[.int .u8 v0, .int .u8 v1, .int .i64 v2, .int .i64 v3, .int .i64 v4, .int .i64 v5] 26 (0, 0)) := bX
    have C1' : (W0.alloc (.cells #[.int .u8 v0, .int .u8 v1, .int .i64 v2, .int .i64 v3, .int .i64 v4, .int .i64 v5] 26)).drew.heap[w.heap.size]? = some (.cells #[.int .u8 0, .int .u8 0, .int .i64 0, .int .i64 0, .int .i64 0, .int .i64 0] 26 (0, 0)) := C1
    clear bX C1 N0 NA CS KN4 KN5 KM1 KM2 N1 N2 L0 C0 B0 i6 i10 j6 j10 j16 n1 n2
    generalize (W0.alloc (.cells #[.int .u8 v0, .int .u8 v1, .int .i64 v2, .int .i64 v3, .int .i64 v4, .int .i64 v5] 26)).drew = W1 at *
    generalize W0.heap.size = bo at *
    obtain ⟨x0, x1, x2, x3, x4, x5⟩ := o_cells _ _ _ _ _ _ bX'
    have RB := Lib.hid (fun W (m : Below W1.heap.size W1 W) => RR.out W (NB.trans (m.mono NB.size)))
    by_cases hok : optOk v0 v1 v2 v3 v4 v5 = true
    · have KP := Lib.hid (refOPut_yes v0 v1 v2 v3 v4 v5 k2 k3 hok W1)
      have HB := Lib.hid (optB_in (cu := v2) (pv := v3) (ge := v4) (ti := v5) k2 k3)
      rw [hok, Bool.true_and] at HOK
      clear hok
      go_wp2_with (fail)
      refine KP.out.mono ?_
      rintro e w2 ⟨g, c, rfl, o2, m2⟩
      have L3 := NB.trans (m2.mono NB.size)
      have C3 := (m2.block _ (Array.getElem?_eq_some_iff.1 C1').1).trans C1'
      have bX3 := (m2.block _ (Array.getElem?_eq_some_iff.1 bX').1).trans bX'
      have s1 := (Row.of_own o2 (in_wf8 HB.out)).str 16 c (by simp [optB])
      have s2 := (RB.out w2 m2).str 16 cap HL.out
      have HE := Lib.hid (str_eq HB.out HI.out)
      clear o2 C1' bX' x0 x1 x2 x3 x4 x5 KP RB m2
      obtain ⟨x0, x1, x2, x3, x4, x5⟩ := o_cells _ _ _ _ _ _ bX3
      obtain ⟨q0, q1, q2, q3, q4, q5⟩ := o_cells _ _ _ _ _ _ C3
      have f0 := o_frozen C3 0
      have f1 := o_frozen C3 1
      have f2 := o_frozen C3 2
      have f3 := o_frozen C3 3
      have f4 := o_frozen C3 4
      have f5 := o_frozen C3 5
      have HC3 := Lib.hid C3
      have HL3 := Lib.hid L3
      clear C3 bX3 L3
      generalize strOfNums (optB v0 v1 v2 v3 v4 v5) = X at *
      generalize strOfNums bs = Y at *
      by_cases hq : eqB (optB v0 v1 v2 v3 v4 v5) bs = true
      · have e1 : (X.toList == Y.toList) = true := by rw [HE.out]; exact hq
        have e2 : (X.toList != Y.toList) = false := by simp [bne, e1]
        have HY := Lib.hid (show otY bs = 0 ∧ otF bs = (v0, v1, v2, v3, v4, v5) by
          have h : otY bs = 0 := by rw [HYE.out, HOK.out, if_pos hq]
          exact ⟨h, by unfold otF; rw [if_pos h, HV.out]⟩)
        clear hq
        go_wp2
        refine bodyPost_ret (results_o rfl _ _ w.heap.size _ (0, 0) rfl (full_setCells HC3.out [.int .u8 v0, .int .u8 v1, .int .i64 v2, .int .i64 v3, .int .i64 v4, .int .i64 v5] rfl) rfl) rfl ?_
        rw [HY.out.1, HY.out.2]
        exact ⟨rfl, below_setCells w.heap.size (Nat.le_refl _) [.int .u8 v0, .int .u8 v1, .int .i64 v2, .int .i64 v3, .int .i64 v4, .int .i64 v5] 0 w _ HL3.out⟩
      · have hq' : eqB (optB v0 v1 v2 v3 v4 v5) bs = false := by simpa using hq
        have e1 : (X.toList == Y.toList) = false := by rw [HE.out]; exact hq'
        have e2 : (X.toList != Y.toList) = true := by simp [bne, e1]
        have HY := Lib.hid (show otY bs = 60 ∧ otF bs = (0, 0, 0, 0, 0, 0) by
          have h : otY bs = 60 := by rw [HYE.out, HOK.out, if_neg hq]
          exact ⟨h, by unfold otF; rw [h, if_neg (by decide)]⟩)
        clear hq hq'
        go_wp2
        refine bodyPost_ret (results_o rfl _ _ w.heap.size _ (0, 0) rfl (full_setCells HC3.out [.int .u8 0, .int .u8 0, .int .i64 0, .int .i64 0, .int .i64 0, .int .i64 0] rfl) rfl) rfl ?_
        rw [HY.out.1, HY.out.2]
        exact ⟨rfl, below_setCells w.heap.size (Nat.le_refl _) [.int .u8 0, .int .u8 0, .int .i64 0, .int .i64 0, .int .i64 0, .int .i64 0] 0 w _ HL3.out⟩
    · have hok' : optOk v0 v1 v2 v3 v4 v5 = false := by simpa using hok
      have KP := Lib.hid (refOPut_no v0 v1 v2 v3 v4 v5 hok' W1)
      have HY := Lib.hid (show otY bs = 60 ∧ otF bs = (0, 0, 0, 0, 0, 0) by
        have h : otY bs = 60 := by rw [HYE.out, HOK.out, hok', if_neg (by simp)]
        exact ⟨h, by unfold otF; rw [h, if_neg (by decide)]⟩)
      clear hok hok' HOK HYE
      go_wp2_with (fail)
      refine KP.out.mono ?_
      rintro e w2 ⟨rfl, m2⟩
      have L3 := NB.trans (m2.mono NB.size)
      have C3 := (m2.block _ (Array.getElem?_eq_some_iff.1 C1').1).trans C1'
      clear C1' bX' x0 x1 x2 x3 x4 x5 KP RB m2
      obtain ⟨q0, q1, q2, q3, q4, q5⟩ := o_cells _ _ _ _ _ _ C3
      have f0 := o_frozen C3 0
      have f1 := o_frozen C3 1
      have f2 := o_frozen C3 2
      have f3 := o_frozen C3 3
      have f4 := o_frozen C3 4
      have f5 := o_frozen C3 5
      have HC3 := Lib.hid C3
      have HL3 := Lib.hid L3
      clear C3 L3
      go_wp2
      refine bodyPost_ret (results_o rfl _ _ w.heap.size _ (0, 0) rfl (full_setCells HC3.out [.int .u8 0, .int .u8 0, .int .i64 0, .int .i64 0, .int .i64 0, .int .i64 0] rfl) rfl) rfl ?_
      rw [HY.out.1, HY.out.2]
      exact ⟨rfl, below_setCells w.heap.size (Nat.le_refl _) [.int .u8 0, .int .u8 0, .int .i64 0, .int .i64 0, .int .i64 0, .int .i64 0] 0 w _ HL3.out⟩
end Go.Proofs.YthenbpnlmpeafaaDoor
