/- Package option: Take. -/
import Derived.Test.YthenbpnlmpeafaaDoorOpR
namespace Go.Proofs.YthenbpnlmpeafaaDoor
open Go.RowKit Go.Shelf
open SumM

theorem setCells_far {b k : Nat} (hk : k ≠ b) : ∀ (vs : List Value) (o : Nat) (W : World), (W.setCells b o vs).heap[k]? = W.heap[k]?
  | [], _, _ => rfl
  | v :: r, o, W => (setCells_far hk r (o + 1) _).trans (Below.heap_setCell W ⟨b, o, none⟩ v k hk)
theorem list16 {bs : List Int} (h : bs.length = 16) : ∃ a0 a1 a2 a3 a4 a5 a6 a7 a8 a9 b0 b1 b2 b3 b4 b5 : Int, bs = [a0, a1, a2, a3, a4, a5, a6, a7, a8, a9, b0, b1, b2, b3, b4, b5] := by
  match bs, h with
  | [a0, a1, a2, a3, a4, a5, a6, a7, a8, a9, b0, b1, b2, b3, b4, b5], _ => exact ⟨a0, a1, a2, a3, a4, a5, a6, a7, a8, a9, b0, b1, b2, b3, b4, b5, rfl⟩
theorem nval_ot {bs : List Int} (h : bs.length = 16) : nval (bs.drop 2) 0 = (otV bs).1 ∧ nval (bs.drop 2) 1 = (otV bs).2.1 ∧ nval (bs.drop 2) 2 = (otV bs).2.2.1 ∧ nval (bs.drop 2) 3 = (otV bs).2.2.2.1 ∧ nval (bs.drop 2) 4 = (otV bs).2.2.2.2.1 ∧ nval (bs.drop 2) 5 = (otV bs).2.2.2.2.2 := by
  obtain ⟨a0, a1, a2, a3, a4, a5, a6, a7, a8, a9, b0, b1, b2, b3, b4, b5, rfl⟩ := list16 h
  simp [nval, nrow, noff, nw, nlo, numOf, otV, nodeOf]
theorem ot_yes {bs : List Int} (hi : In 255 bs) (h : bs.length = 16) (h0 : bs[0]?.getD 0 = 158) (h1 : bs[1]?.getD 0 = 16) : otOk bs = ofOk (otV bs).1 (otV bs).2.1 (otV bs).2.2.1 (otV bs).2.2.2.1 (otV bs).2.2.2.2.1 (otV bs).2.2.2.2.2 := by
  obtain ⟨a0, a1, a2, a3, a4, a5, a6, a7, a8, a9, b0, b1, b2, b3, b4, b5, rfl⟩ := list16 h
  have hx : ∀ x ∈ [a0, a1, a2, a3, a4, a5, a6, a7, a8, a9, b0, b1, b2, b3, b4, b5], 0 ≤ x ∧ x ≤ 255 := hi
  simp at hx h0 h1
  have he : ∀ c : Int, 0 ≤ c → c ≤ 255 → nodeOf c % 256 = c := fun c h1 h2 => by unfold nodeOf; split <;> omega
  rw [ofOk_opt (by simp [otV]; omega)]
  unfold otOk
  have : eqB (optB (otV [a0, a1, a2, a3, a4, a5, a6, a7, a8, a9, b0, b1, b2, b3, b4, b5]).1 (otV [a0, a1, a2, a3, a4, a5, a6, a7, a8, a9, b0, b1, b2, b3, b4, b5]).2.1 (otV [a0, a1, a2, a3, a4, a5, a6, a7, a8, a9, b0, b1, b2, b3, b4, b5]).2.2.1 (otV [a0, a1, a2, a3, a4, a5, a6, a7, a8, a9, b0, b1, b2, b3, b4, b5]).2.2.2.1 (otV [a0, a1, a2, a3, a4, a5, a6, a7, a8, a9, b0, b1, b2, b3, b4, b5]).2.2.2.2.1 (otV [a0, a1, a2, a3, a4, a5, a6, a7, a8, a9, b0, b1, b2, b3, b4, b5]).2.2.2.2.2) [a0, a1, a2, a3, a4, a5, a6, a7, a8, a9, b0, b1, b2, b3, b4, b5] = true := by
    rw [eqB_true]
    simp only [otV, optB, List.getElem?_cons_succ, List.getElem?_cons_zero, Option.getD_some, List.drop_succ_cons, List.drop_zero, List.take_succ_cons, List.take_zero, numOf, List.foldl_cons, List.foldl_nil]
    rw [he a4 (by omega) (by omega), he a5 (by omega) (by omega), h0, h1]
    simp only [List.cons.injEq, and_true, true_and]
    refine ⟨?_, ?_, ?_, ?_, ?_, ?_, ?_, ?_, ?_, ?_⟩ <;> omega
  rw [this, Bool.and_true]
theorem ot_no {bs : List Int} (h : bs.length = 16) (h0 : ¬ (bs[0]?.getD 0 = 158 ∧ bs[1]?.getD 0 = 16)) : otOk bs = false := by
  obtain ⟨a0, a1, a2, a3, a4, a5, a6, a7, a8, a9, b0, b1, b2, b3, b4, b5, rfl⟩ := list16 h
  simp at h0
  rw [Bool.eq_false_iff]
  intro hk
  unfold otOk at hk
  rw [Bool.and_eq_true] at hk
  have := (eqB_true).1 hk.2
  simp only [optB, List.cons.injEq] at this
  exact h0 this.1.symm this.2.1.symm

set_option maxRecDepth 100000 in
set_option maxHeartbeats 4000000 in
theorem oTake_any (a : Option Addr) (len cap : Nat) (bs : List Int) (hl : bs.length = len) (hlc : len ≤ cap) (hc : cap ≤ 9223372036854775807) (w : World) (hR : Row .u8 w.heap.size w a bs) :
    Calls Tryd.prog 60 #[.slice a len cap] w (OTakeRet bs w) := by
  have b0 := blkN (heap_alloc_new w (.cells #[.int .u8 0, .int .u8 0, .int .i64 0, .int .i64 0, .int .i64 0, .int .i64 0] 26)) (.cells #[.int .u8 0, .int .u8 0, .int .i64 0, .int .i64 0, .int .i64 0, .int .i64 0] 26)
  have b1 := newN (w.alloc (.cells #[.int .u8 0, .int .u8 0, .int .i64 0, .int .i64 0, .int .i64 0, .int .i64 0] 26)) (.cells #[.int .u8 0, .int .u8 0, .int .i64 0, .int .i64 0, .int .i64 0, .int .i64 0] 26) (w.heap.size + 1) (by simp)
  have L0 := ((Below.refl w.heap.size w).alloc (Nat.le_refl _) (.cells #[.int .u8 0, .int .u8 0, .int .i64 0, .int .i64 0, .int .i64 0, .int .i64 0] 26)).alloc (by simp) (.cells #[.int .u8 0, .int .u8 0, .int .i64 0, .int .i64 0, .int .i64 0, .int .i64 0] 26)
  have HI := Lib.hid (row_in hR)
  go_enter Tryd.func60, Tryd.ntmps60
  go_wp2
  have HR := Lib.hid hR
  have B0 := Lib.hid b0
  have B1 := Lib.hid b1
  have HL := Lib.hid L0
  have HN := Lib.hid (And.intro hl (And.intro hlc hc))
  clear b0 b1 L0 hR hl hlc hc

  refine wp_scope_jumps 0 (fun a' w' => ∃ y, Below w.heap.size w w' ∧ otY bs = y ∧ y ≠ 0 ∧ w'.heap[w.heap.size]? = some (.cells #[.int .u8 0, .int .u8 0, .int .i64 0, .int .i64 0, .int .i64 0, .int .i64 0] 26 (0, 0)) ∧ ∃ (u0 u1 u4 u6 u7 u8 u9 u10 u11 u12 u13 u14 u15 u16 u17 u18 u19 u20 u21 u22 u23 u24 u25 u26 u27 u28 u29 u30 u31 u32 u33 : Value), a' = { tmps := #[u0, u1, .pointer (some ⟨w.heap.size, 0, none⟩), .int .i64 0, u4, .int .i64 y, u6, u7, u8, u9, u10, u11, u12, u13, u14, u15, u16, u17, u18, u19, u20, u21, u22, u23, u24, u25, u26, u27, u28, u29, u30, u31, u32, u33], defers := [] }) (fun _ _ => 0) rfl ?first ?pass
  case first =>
    by_cases h1 : len < 16
    · have p1 : decide ((len : Int) < 16) = true := decide_eq_true (by omega)
      have HY : Hid (otY bs = 61) := Lib.hid (by unfold otY; rw [HN.out.1, if_pos h1])
      clear h1
      go_wp2
      go_step3
      exact ⟨rfl, 61, HL.out, HY.out, by decide, B0.out, _, _, _, _, _, _, _, _, _, _, _, _, _, _, _, _, _, _, _, _, _, _, _, _, _, _, _, _, _, _, _, rfl⟩
    have p1 : decide ((len : Int) < 16) = false := decide_eq_false (by omega)
    obtain ⟨b, off, rfl, hb, hcl⟩ := HR.out.2 (by rw [HN.out.1]; omega)
    have c0 := HL.out.cell (p := ⟨b, off + 0, none⟩) hb |>.trans (hcl 0 (by rw [HN.out.1]; omega))
    have c1 := HL.out.cell (p := ⟨b, off + 1, none⟩) hb |>.trans (hcl 1 (by rw [HN.out.1]; omega))
    simp only [Nat.add_zero] at c0
    have hge : 16 ≤ len := by omega
    clear hcl h1
    have hc : (decide ((16 : Int) < len) = true ∧ otY bs = 60) ∨ (decide ((16 : Int) < len) = false ∧ (bs[0]?.getD 0 == 158) = false ∧ otY bs = 60) ∨ (decide ((16 : Int) < len) = false ∧ bs[0]?.getD 0 = 158 ∧ (bs[1]?.getD 0 == 16) = false ∧ otY bs = 60) ∨ (decide ((16 : Int) < len) = false ∧ bs[0]?.getD 0 = 158 ∧ bs[1]?.getD 0 = 16 ∧ len = 16) := by
      have hn := HN.out.1
      by_cases h2 : 16 < len
      · exact .inl ⟨decide_eq_true (by omega), by unfold otY; rw [hn, if_neg (by omega), if_pos h2]⟩
      · have h3 : decide ((16 : Int) < len) = false := decide_eq_false (by omega)
        by_cases h4 : bs[0]?.getD 0 = 158
        · by_cases h5 : bs[1]?.getD 0 = 16
          · exact .inr (.inr (.inr ⟨h3, h4, h5, by omega⟩))
          · exact .inr (.inr (.inl ⟨h3, h4, by simpa using h5, by unfold otY; rw [hn, if_neg (by omega), if_neg h2, if_neg (by rw [ot_no (by omega) (fun h => h5 h.2)]; simp)]⟩))
        · exact .inr (.inl ⟨h3, by simpa using h4, by unfold otY; rw [hn, if_neg (by omega), if_neg h2, if_neg (by rw [ot_no (by omega) (fun h => h4 h.1)]; simp)]⟩)
    generalize hx0 : bs[0]?.getD 0 = x0 at *
    generalize hx1 : bs[1]?.getD 0 = x1 at *
    have HX := Lib.hid (And.intro hx0 hx1)
    clear hx0 hx1
    rcases hc with ⟨p2, hy⟩ | ⟨p2, p3, hy⟩ | ⟨p2, rfl, p3, hy⟩ | ⟨p2, rfl, rfl, h16⟩
    · have HY := Lib.hid hy
      clear hy
      go_wp2
      go_step3
      exact ⟨rfl, 60, HL.out, HY.out, by decide, B0.out, _, _, _, _, _, _, _, _, _, _, _, _, _, _, _, _, _, _, _, _, _, _, _, _, _, _, _, _, _, _, _, rfl⟩
    · have HY := Lib.hid hy
      clear hy
      have p4 : (x0 != 158) = true := by simpa using p3
      go_wp2
      go_step3
      exact ⟨rfl, 60, HL.out, HY.out, by decide, B0.out, _, _, _, _, _, _, _, _, _, _, _, _, _, _, _, _, _, _, _, _, _, _, _, _, _, _, _, _, _, _, _, rfl⟩
    · have HY := Lib.hid hy
      clear hy
      have p4 : (x1 != 16) = true := by simpa using p3
      go_wp2
      go_step3
      exact ⟨rfl, 60, HL.out, HY.out, by decide, B0.out, _, _, _, _, _, _, _, _, _, _, _, _, _, _, _, _, _, _, _, _, _, _, _, _, _, _, _, _, _, _, _, rfl⟩
    · have HM := Lib.hid (And.intro (HN.out.1.trans h16) h16)
      have hcap : 16 ≤ cap := by have := HN.out.2.1; omega
      have hcap2 : (2 : Int) ≤ (cap : Int) := by omega
      have hcap3 : (2 : Int) ≤ (len : Int) := by omega
      have hcap4 : 2 ≤ len := by omega
      have hcap5 : 2 ≤ cap := by omega
      have hcap6 : cap ≠ 2 := by omega
      clear h16
      have hrow := (HR.out.step HL.out).drop 2
      have KI := Lib.hid (callsIn_wide.1 (onumbersIn_in 4 (by omega) _ (len - 2) (cap - 2) (bs.drop 2) (by have := HM.out; simp; omega) (by have := HM.out; omega) (by have := HN.out.2.1; omega) (by have := HN.out.2.2; omega) _ hrow))
      clear hrow
      go_wp2_with (fail)
      generalize (w.alloc (.cells #[.int .u8 0, .int .u8 0, .int .i64 0, .int .i64 0, .int .i64 0, .int .i64 0] 26)).alloc (.cells #[.int .u8 0, .int .u8 0, .int .i64 0, .int .i64 0, .int .i64 0, .int .i64 0] 26) = W0 at *
      refine KI.out.mono ?_
      rintro e w1 ⟨rfl, m1⟩
      have HV := Lib.hid (nval_ot HM.out.1)
      have HO := Lib.hid (ot_yes HI.out HM.out.1 HX.out.1 HX.out.2)
      have R1 := Lib.hid ((m1.block _ (Array.getElem?_eq_some_iff.1 B0.out).1).trans B0.out)
      have R2 := Lib.hid ((m1.block _ (Array.getElem?_eq_some_iff.1 B1.out).1).trans B1.out)
      have LL := Lib.hid (HL.out.trans (m1.mono HL.out.size))
      rw [HV.out.1, HV.out.2.1, HV.out.2.2.1, HV.out.2.2.2.1, HV.out.2.2.2.2.1, HV.out.2.2.2.2.2]
      clear m1 c0 c1 KI
      have K2 := Lib.hid (within_any (otV bs).1 (otV bs).2.1 (otV bs).2.2.1 (otV bs).2.2.2.1 (otV bs).2.2.2.2.1 (otV bs).2.2.2.2.2 w1)
      go_wp2_with (fail)
      refine K2.out.mono ?_
      rintro e w2 ⟨rfl, m2⟩
      clear K2
      have hv := ofV_zero (k := (otV bs).1) (b := (otV bs).2.1) (c := (otV bs).2.2.1) (p := (otV bs).2.2.2.1) (g := (otV bs).2.2.2.2.1) (t := (otV bs).2.2.2.2.2)
      have r1 := (m2.block _ (Array.getElem?_eq_some_iff.1 R1.out).1).trans R1.out
      have r2 := (m2.block _ (Array.getElem?_eq_some_iff.1 R2.out).1).trans R2.out
      have L2 := Lib.hid (LL.out.trans (m2.mono LL.out.size))
      have HLN := Lib.hid (show otY bs = if otOk bs = true then 0 else 60 by unfold otY; rw [HM.out.1, if_neg (by omega), if_neg (by omega)])
      clear m2
      generalize hq : ofV (otV bs).1 (otV bs).2.1 (otV bs).2.2.1 (otV bs).2.2.2.1 (otV bs).2.2.2.2.1 (otV bs).2.2.2.2.2 = q at *
      obtain ⟨v1, v2, v3, v4, v5, v6⟩ := q
      have HE := Lib.hid hq
      simp only at hv ⊢
      have key := fun W => run_eqO v1 v2 v3 v4 v5 v6 0 0 0 0 0 0 W
      rw [hv] at key
      clear hv hq
      obtain ⟨s0, s1, s2, s3, s4, s5⟩ := o_cells _ _ _ _ _ _ r2
      have h0 := o_frozen r2 0
      have h1 := o_frozen r2 1
      have h2 := o_frozen r2 2
      have h3 := o_frozen r2 3
      have h4 := o_frozen r2 4
      have h5 := o_frozen r2 5
      have S1 := Lib.hid r1
      have S2 := Lib.hid r2
      clear r1 r2
      go_upto_region 7 with (fail)
      have n2 : (((((((w2.setCell ⟨w.heap.size + 1, 0, none⟩ (.int .u8 v1)).setCell ⟨w.heap.size + 1, 1, none⟩ (.int .u8 v2)).setCell ⟨w.heap.size + 1, 2, none⟩ (.int .i64 v3)).setCell ⟨w.heap.size + 1, 3, none⟩ (.int .i64 v4)).setCell ⟨w.heap.size + 1, 4, none⟩ (.int .i64 v5)).setCell ⟨w.heap.size + 1, 5, none⟩ (.int .i64 v6))).heap[w.heap.size + 1]? = some (.cells [.int .u8 v1, .int .u8 v2, .int .i64 v3, .int .i64 v4, .int .i64 v5, .int .i64 v6].toArray 26 (0, 0)) := full_setCells S2.out [.int .u8 v1, .int .u8 v2, .int .i64 v3, .int .i64 v4, .int .i64 v5, .int .i64 v6] rfl
      have n1 := (setCells_far (b := w.heap.size + 1) (k := w.heap.size) (by omega) [.int .u8 v1, .int .u8 v2, .int .i64 v3, .int .i64 v4, .int .i64 v5, .int .i64 v6] 0 w2).trans S1.out
      have n3 := below_setCells (w.heap.size + 1) (by omega) [.int .u8 v1, .int .u8 v2, .int .i64 v3, .int .i64 v4, .int .i64 v5, .int .i64 v6] 0 w _ L2.out
      clear s0 s1 s2 s3 s4 s5 h0 h1 h2 h3 h4 h5
      have n4 : (((((((w2.setCell ⟨w.heap.size + 1, 0, none⟩ (.int .u8 v1)).setCell ⟨w.heap.size + 1, 1, none⟩ (.int .u8 v2)).setCell ⟨w.heap.size + 1, 2, none⟩ (.int .i64 v3)).setCell ⟨w.heap.size + 1, 3, none⟩ (.int .i64 v4)).setCell ⟨w.heap.size + 1, 4, none⟩ (.int .i64 v5)).setCell ⟨w.heap.size + 1, 5, none⟩ (.int .i64 v6))).heap[w.heap.size]? = some (.cells #[.int .u8 0, .int .u8 0, .int .i64 0, .int .i64 0, .int .i64 0, .int .i64 0] 26 (0, 0)) := n1
      have n5 : Below w.heap.size w (((((((w2.setCell ⟨w.heap.size + 1, 0, none⟩ (.int .u8 v1)).setCell ⟨w.heap.size + 1, 1, none⟩ (.int .u8 v2)).setCell ⟨w.heap.size + 1, 2, none⟩ (.int .i64 v3)).setCell ⟨w.heap.size + 1, 3, none⟩ (.int .i64 v4)).setCell ⟨w.heap.size + 1, 4, none⟩ (.int .i64 v5)).setCell ⟨w.heap.size + 1, 5, none⟩ (.int .i64 v6))) := n3
      clear n1 n3
      generalize (((((((w2.setCell ⟨w.heap.size + 1, 0, none⟩ (.int .u8 v1)).setCell ⟨w.heap.size + 1, 1, none⟩ (.int .u8 v2)).setCell ⟨w.heap.size + 1, 2, none⟩ (.int .i64 v3)).setCell ⟨w.heap.size + 1, 3, none⟩ (.int .i64 v4)).setCell ⟨w.heap.size + 1, 4, none⟩ (.int .i64 v5)).setCell ⟨w.heap.size + 1, 5, none⟩ (.int .i64 v6))) = W3 at *
      obtain ⟨s0, s1, s2, s3, s4, s5⟩ := o_cells _ _ _ _ _ _ n2
      by_cases hok : ofOk (otV bs).1 (otV bs).2.1 (otV bs).2.2.1 (otV bs).2.2.2.1 (otV bs).2.2.2.2.1 (otV bs).2.2.2.2.2 = true
      · rw [hok] at key
        simp only [Bool.not_true] at key
        have HOK := Lib.hid hok
        obtain ⟨r0, r1, r2, r3, r4, r5⟩ := o_cells _ _ _ _ _ _ n4
        have g0 := o_frozen n4 0
        have g1 := o_frozen n4 1
        have g2 := o_frozen n4 2
        have g3 := o_frozen n4 3
        have g4 := o_frozen n4 4
        have g5 := o_frozen n4 5
        have S4 := Lib.hid n4
        have S5 := Lib.hid n5
        clear hok n2 n4 n5
        go_wp2
        simp only [Exit.jump]
        refine bodyPost_ret (results_o rfl _ _ w.heap.size _ (0, 0) rfl (full_setCells S4.out [.int .u8 v1, .int .u8 v2, .int .i64 v3, .int .i64 v4, .int .i64 v5, .int .i64 v6] rfl) rfl) rfl ?_
        have hy : otY bs = 0 := by rw [HLN.out, HO.out, if_pos HOK.out]
        have hf : otF bs = (v1, v2, v3, v4, v5, v6) := by
          unfold otF
          rw [if_pos hy, ← HE.out]
          unfold ofV
          rw [if_pos HOK.out]
        refine ⟨?_, below_setCells w.heap.size (by omega) [.int .u8 v1, .int .u8 v2, .int .i64 v3, .int .i64 v4, .int .i64 v5, .int .i64 v6] 0 w _ S5.out⟩
        rw [hy, hf]
        rfl
      · simp only [Bool.not_eq_true] at hok
        rw [hok] at key
        simp only [Bool.not_false] at key
        have HOK := Lib.hid hok
        have S4 := Lib.hid n4
        have S5 := Lib.hid n5
        clear hok n2 n4 n5
        go_wp2
        go_step3
        exact ⟨rfl, 60, S5.out, by rw [HLN.out, HO.out, HOK.out]; rfl, by decide, S4.out, _, _, _, _, _, _, _, _, _, _, _, _, _, _, _, _, _, _, _, _, _, _, _, _, _, _, _, _, _, _, _, rfl⟩
  case pass =>
    rintro a' w' ⟨y, LL, hy, hy0, hr, u0, u1, u4, u6, u7, u8, u9, u10, u11, u12, u13, u14, u15, u16, u17, u18, u19, u20, u21, u22, u23, u24, u25, u26, u27, u28, u29, u30, u31, u32, u33, rfl⟩
    obtain ⟨r0, r1, r2, r3, r4, r5⟩ := o_cells _ _ _ _ _ _ hr
    have g0 := o_frozen hr 0
    have g1 := o_frozen hr 1
    have g2 := o_frozen hr 2
    have g3 := o_frozen hr 3
    have g4 := o_frozen hr 4
    have g5 := o_frozen hr 5
    have HR := Lib.hid hr
    have HLL := Lib.hid LL
    have HY := Lib.hid (And.intro hy hy0)
    clear hr LL hy hy0
    go_wp2
    simp only [Exit.jump]
    refine bodyPost_ret (results_o rfl _ _ w.heap.size _ (0, 0) rfl (full_setCells HR.out [.int .u8 0, .int .u8 0, .int .i64 0, .int .i64 0, .int .i64 0, .int .i64 0] rfl) rfl) rfl ?_
    refine ⟨?_, below_setCells w.heap.size (by omega) [.int .u8 0, .int .u8 0, .int .i64 0, .int .i64 0, .int .i64 0, .int .i64 0] 0 w _ HLL.out⟩
    unfold otF
    rw [HY.out.1, if_neg HY.out.2]
    rfl
end Go.Proofs.YthenbpnlmpeafaaDoor
