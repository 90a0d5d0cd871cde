/- The document's own Parse. -/
import Derived.Test.YthenbpnlmpeafaaDoorIpRef
import Derived.Deep.RegionLaw
import Derived.Deep.DeepCutAuto
namespace Go.Proofs.YthenbpnlmpeafaaDoor
open Go.RowKit Go.Shelf
open SumM

/-- The number at a place of bytes. -/
theorem num_at (i : Nat) (hi : i < 10) (o k : Nat) (ho : offAt i = o) (hk : widthAt i = k) (b off c B : Nat) (bs : List Int) (h20 : 20 ≤ bs.length) (w : World) (hR : Row .u8 B w (some ⟨b, off, none⟩) bs) :
    Calls Tryd.prog 41 #[.slice (some ⟨b, off + o, none⟩) k c] w fun e w' => e = .returned (.int .i64 (segAt bs i)) ∧ w = w' := by
  subst ho hk
  have := (offAt_succ i hi).2
  have hw := widthAt_is i
  exact number_any _ _ c B ((bs.drop (offAt i)).take (widthAt i)) w ((hR.drop (offAt i)).take _) (by simp; omega) (by omega)
theorem num_if (i : Nat) (hi : i < 10) (o k : Nat) (ho : offAt i = o) (hk : widthAt i = k) (b off cap c B : Nat) (hne : cap ≠ o) (bs : List Int) (h20 : 20 ≤ bs.length) (w : World) (hR : Row .u8 B w (some ⟨b, off, none⟩) bs) :
    Calls Tryd.prog 41 #[.slice (if cap = o then some ⟨b, off, none⟩ else some ⟨b, off + o, none⟩) k c] w fun e w' => e = .returned (.int .i64 (segAt bs i)) ∧ w = w' := by
  rw [if_neg hne]
  exact num_at i hi o k ho hk b off c B bs h20 w hR
theorem segAt_byte (bs : List Int) (i : Nat) (hi : widthAt i = 1) (h20 : 20 ≤ bs.length) (h10 : i < 10) : segAt bs i = bs[offAt i]?.getD 0 := by
  have := (offAt_succ i h10).2
  have e : (bs.drop (offAt i)).take 1 = [bs[offAt i]?.getD 0] := by
    have hl : offAt i < bs.length := by omega
    rw [List.drop_eq_getElem_cons hl, List.take_succ_cons, List.take_zero, List.getElem?_eq_getElem hl]
    rfl
  unfold segAt
  rw [hi, e]
  simp [numOf]

set_option maxRecDepth 100000 in
set_option maxHeartbeats 8000000 in
theorem refParse_any (a : Option Addr) (len cap : Nat) (bs : List Int) (hlen : bs.length = len) (hlc : len ≤ cap) (hc : cap ≤ 9223372036854775807) (hln : len ≤ 1000000) (w : World) (hR : Row .u8 w.heap.size w a bs) :
    Calls Tryd.prog 25 #[.slice a len cap] w (ParseRet bs w) := by
  have hin := row_in hR
  have HL := Lib.hid hlen
  clear hlen
  have hd0 := heap_alloc_new w (.cells #[.int .u8 0, .int .u16 0, .int .u16 0, .int .u8 0, .int .u8 0, .int .u32 0, .int .u32 0, .slice none 0 0, .slice none 0 0] 51)
  have L0 := (Below.refl w.heap.size w).alloc (Nat.le_refl _) (.cells #[.int .u8 0, .int .u16 0, .int .u16 0, .int .u8 0, .int .u8 0, .int .u32 0, .int .u32 0, .slice none 0 0, .slice none 0 0] 51)
  have hz0 : w.heap.size < (w.alloc (.cells #[.int .u8 0, .int .u16 0, .int .u16 0, .int .u8 0, .int .u8 0, .int .u32 0, .int .u32 0, .slice none 0 0, .slice none 0 0] 51)).heap.size := by simp
  have R0 := Lib.hid (hR.below L0)
  have C0 := Lib.hid hd0
  have B0 := Lib.hid L0
  obtain ⟨⟨q0, q1, q2, q3, q4, q5, q6, q7, q8⟩, qf⟩ := nine_cells hd0
  have f0 := qf 0
  have f1 := qf 1
  have f2 := qf 2
  have f3 := qf 3
  have f4 := qf 4
  have f5 := qf 5
  have f6 := qf 6
  have f7 := qf 7
  have f8 := qf 8
  clear qf hd0 L0
  by_cases h20 : len < 20
  · have hy := why_few (bs := bs) (by rw [HL.out]; exact h20)
    have HY := Lib.hid hy
    clear hy
    go_enter Tryd.func25, Tryd.ntmps25
    go_upto_region 1 with (fail)
    generalize w.alloc (.cells #[.int .u8 0, .int .u16 0, .int .u16 0, .int .u8 0, .int .u8 0, .int .u32 0, .int .u32 0, .slice none 0 0, .slice none 0 0] 51) = W0 at *
    go_wp2
    refine bodyPost_ret (results_head rfl _ _ w.heap.size _ (0, 0) rfl (full_setCells C0.out [.int .u8 0, .int .u16 0, .int .u16 0, .int .u8 0, .int .u8 0, .int .u32 0, .int .u32 0, .slice none 0 0, .slice none 0 0] rfl) rfl) rfl ?_
    exact .inl ⟨by rw [HY.out]; decide, by rw [HY.out]; rfl, below_setCells w.heap.size (Nat.le_refl _) [.int .u8 0, .int .u16 0, .int .u16 0, .int .u8 0, .int .u8 0, .int .u32 0, .int .u32 0, .slice none 0 0, .slice none 0 0] 0 w _ B0.out⟩
  have h20' : 20 ≤ bs.length := by rw [HL.out]; omega
  obtain ⟨b, off, rfl, hbw, hcz⟩ := hR.2 (by omega)
  have z1 := segAt_in hin 0
  have hS0 := seg0_get bs h20'
  have hb0 := getD_in hin (by decide) 0
  have c0 : (w.alloc (.cells #[.int .u8 0, .int .u16 0, .int .u16 0, .int .u8 0, .int .u8 0, .int .u32 0, .int .u32 0, .slice none 0 0, .slice none 0 0] 51)).cell? ⟨b, off, none⟩ = some (.int .u8 (segAt bs 0)) := by
    rw [hS0]
    exact (B0.out.cell (p := ⟨b, off, none⟩) hbw).trans (hcz 0 (by omega))
  have z0 : 0 ≤ segAt bs 0 ∧ segAt bs 0 ≤ 255 := by rw [hS0]; exact hb0
  have H20 := Lib.hid h20'
  clear hcz z1 hS0 hb0 h20'
  have LN : ¬ bs.length < 20 := by rw [HL.out]; exact h20
  have LN := Lib.hid LN
  have HH := Lib.hid (show hlOf bs = (segAt bs 0 % 16 * 4).toNat from rfl)
  by_cases e2 : (segAt bs 0 / 16 != 4) = true
  · have HY := Lib.hid (show whyOf bs = 2 by unfold whyOf; rw [if_neg LN.out, if_pos (by simpa using e2)])
    go_enter Tryd.func25, Tryd.ntmps25
    go_upto_region 1 with (fail)
    generalize w.alloc (.cells #[.int .u8 0, .int .u16 0, .int .u16 0, .int .u8 0, .int .u8 0, .int .u32 0, .int .u32 0, .slice none 0 0, .slice none 0 0] 51) = W0 at *
    go_wp2
    refine bodyPost_ret (results_head rfl _ _ w.heap.size _ (0, 0) rfl (full_setCells C0.out [.int .u8 0, .int .u16 0, .int .u16 0, .int .u8 0, .int .u8 0, .int .u32 0, .int .u32 0, .slice none 0 0, .slice none 0 0] rfl) rfl) rfl ?_
    exact .inl ⟨by rw [HY.out]; decide, by rw [HY.out]; rfl, below_setCells w.heap.size (Nat.le_refl _) [.int .u8 0, .int .u16 0, .int .u16 0, .int .u8 0, .int .u8 0, .int .u32 0, .int .u32 0, .slice none 0 0, .slice none 0 0] 0 w _ B0.out⟩
  have n2 : ¬ segAt bs 0 / 16 ≠ 4 := by simpa using e2
  have e2' : (segAt bs 0 / 16 != 4) = false := by simpa using e2
  have N2 := Lib.hid n2
  clear e2 n2
  by_cases e3 : segAt bs 0 % 16 * 4 < 20
  · have d3 : decide (segAt bs 0 % 16 * 4 < 20) = true := decide_eq_true e3
    have HY := Lib.hid (show whyOf bs = 3 by unfold whyOf; rw [if_neg LN.out, if_neg N2.out, if_pos (by rw [HH.out]; omega)])
    go_enter Tryd.func25, Tryd.ntmps25
    go_upto_region 1 with (fail)
    generalize w.alloc (.cells #[.int .u8 0, .int .u16 0, .int .u16 0, .int .u8 0, .int .u8 0, .int .u32 0, .int .u32 0, .slice none 0 0, .slice none 0 0] 51) = W0 at *
    go_wp2
    refine bodyPost_ret (results_head rfl _ _ w.heap.size _ (0, 0) rfl (full_setCells C0.out [.int .u8 0, .int .u16 0, .int .u16 0, .int .u8 0, .int .u8 0, .int .u32 0, .int .u32 0, .slice none 0 0, .slice none 0 0] rfl) rfl) rfl ?_
    exact .inl ⟨by rw [HY.out]; decide, by rw [HY.out]; rfl, below_setCells w.heap.size (Nat.le_refl _) [.int .u8 0, .int .u16 0, .int .u16 0, .int .u8 0, .int .u8 0, .int .u32 0, .int .u32 0, .slice none 0 0, .slice none 0 0] 0 w _ B0.out⟩
  have d3 : decide (segAt bs 0 % 16 * 4 < 20) = false := decide_eq_false e3
  by_cases e4 : (len : Int) < segAt bs 0 % 16 * 4
  · have d4 : decide ((len : Int) < segAt bs 0 % 16 * 4) = true := decide_eq_true e4
    have HY := Lib.hid (show whyOf bs = 3 by unfold whyOf; rw [if_neg LN.out, if_neg N2.out, if_pos (by rw [HH.out, HL.out]; omega)])
    go_enter Tryd.func25, Tryd.ntmps25
    go_upto_region 1 with (fail)
    generalize w.alloc (.cells #[.int .u8 0, .int .u16 0, .int .u16 0, .int .u8 0, .int .u8 0, .int .u32 0, .int .u32 0, .slice none 0 0, .slice none 0 0] 51) = W0 at *
    go_wp2
    refine bodyPost_ret (results_head rfl _ _ w.heap.size _ (0, 0) rfl (full_setCells C0.out [.int .u8 0, .int .u16 0, .int .u16 0, .int .u8 0, .int .u8 0, .int .u32 0, .int .u32 0, .slice none 0 0, .slice none 0 0] rfl) rfl) rfl ?_
    exact .inl ⟨by rw [HY.out]; decide, by rw [HY.out]; rfl, below_setCells w.heap.size (Nat.le_refl _) [.int .u8 0, .int .u16 0, .int .u16 0, .int .u8 0, .int .u8 0, .int .u32 0, .int .u32 0, .slice none 0 0, .slice none 0 0] 0 w _ B0.out⟩
  have d4 : decide ((len : Int) < segAt bs 0 % 16 * 4) = false := decide_eq_false e4
  have N3 := Lib.hid (show ¬ (hlOf bs < 20 ∨ bs.length < hlOf bs) by rw [HH.out, HL.out]; omega)
  have s2 := segAt_in hin 2
  by_cases e5 : (segAt bs 2 != (len : Int)) = true
  · have HY := Lib.hid (show whyOf bs = 4 by unfold whyOf; rw [if_neg LN.out, if_neg N2.out, if_neg N3.out, if_pos (by rw [HL.out]; simpa using e5)])
    go_enter Tryd.func25, Tryd.ntmps25
    go_upto_region 1 with (fail)
    generalize w.alloc (.cells #[.int .u8 0, .int .u16 0, .int .u16 0, .int .u8 0, .int .u8 0, .int .u32 0, .int .u32 0, .slice none 0 0, .slice none 0 0] 51) = W0 at *
    go_wp2_with (go_at_call 41; refine (num_at 2 (by decide) 2 2 rfl rfl b off _ _ bs H20.out _ R0.out).mono ?_; rintro e w1 ⟨rfl, rfl⟩)
    refine bodyPost_ret (results_head rfl _ _ w.heap.size _ (0, 0) rfl (full_setCells C0.out [.int .u8 0, .int .u16 0, .int .u16 0, .int .u8 0, .int .u8 0, .int .u32 0, .int .u32 0, .slice none 0 0, .slice none 0 0] rfl) rfl) rfl ?_
    exact .inl ⟨by rw [HY.out]; decide, by rw [HY.out]; rfl, below_setCells w.heap.size (Nat.le_refl _) [.int .u8 0, .int .u16 0, .int .u16 0, .int .u8 0, .int .u8 0, .int .u32 0, .int .u32 0, .slice none 0 0, .slice none 0 0] 0 w _ B0.out⟩
  have e5' : (segAt bs 2 != (len : Int)) = false := by simpa using e5
  have N4 := Lib.hid (show ¬ segAt bs 2 ≠ bs.length by rw [HL.out]; simpa using e5)
  clear e5
  have HI := Lib.hid hin
  have W16 : Hid (IntKind.u16.wrap (segAt bs 3) = segAt bs 3 ∧ IntKind.u16.wrap (segAt bs 4) = segAt bs 4 ∧ IntKind.u32.wrap (segAt bs 8) = segAt bs 8 ∧ IntKind.u32.wrap (segAt bs 9) = segAt bs 9 ∧ segAt bs 1 % 256 = segAt bs 1 ∧ segAt bs 3 % 65536 = segAt bs 3 ∧ segAt bs 4 % 65536 = segAt bs 4 ∧ segAt bs 5 % 256 = segAt bs 5 ∧ segAt bs 6 % 256 = segAt bs 6) := Lib.hid (by
    have t1 := segAt_lt hin 1
    have t3 := segAt_lt hin 3
    have t4 := segAt_lt hin 4
    have t5 := segAt_lt hin 5
    have t6 := segAt_lt hin 6
    have u1 := segAt_in hin 1
    have u3 := segAt_in hin 3
    have u4 := segAt_in hin 4
    have u5 := segAt_in hin 5
    have u6 := segAt_in hin 6
    have u8 := segAt_in hin 8
    have u9 := segAt_in hin 9
    simp only [widthAt, List.getElem?_cons_succ, List.getElem?_cons_zero, Option.getD_some, Int.reducePow] at t1 t3 t4 t5 t6
    exact ⟨by rw [wrap_u16]; omega, by rw [wrap_u16]; omega, IntWalk.u32_in _ (by omega), IntWalk.u32_in _ (by omega), by omega, by omega, by omega, by omega, by omega⟩)
  have C1 := Lib.hid (hR.2 (by have := H20.out; omega))
  have i1 : (1 : Int) < (len : Int) := by omega
  have i8 : (8 : Int) < (len : Int) := by omega
  have i9 : (9 : Int) < (len : Int) := by omega
  have k4 : (4 : Int) ≤ (cap : Int) := by omega
  have k6 : (6 : Int) ≤ (cap : Int) := by omega
  have k8 : (8 : Int) ≤ (cap : Int) := by omega
  have k12 : (12 : Int) ≤ (cap : Int) := by omega
  have k16 : (16 : Int) ≤ (cap : Int) := by omega
  have k20 : (20 : Int) ≤ (cap : Int) := by omega
  go_enter Tryd.func25, Tryd.ntmps25
  go_upto_region 1 with (fail)
  generalize w.alloc (.cells #[.int .u8 0, .int .u16 0, .int .u16 0, .int .u8 0, .int .u8 0, .int .u32 0, .int .u32 0, .slice none 0 0, .slice none 0 0] 51) = W0 at *
  go_wp2_with (go_at_call 41; refine (num_at 2 (by decide) 2 2 rfl rfl b off _ _ bs H20.out _ R0.out).mono ?_; rintro e w1 ⟨rfl, rfl⟩)
  have R1 := Lib.hid (show Row .u8 w.heap.size W0.drew (some ⟨b, off, none⟩) bs from R0.out)
  have hn1 : (0 : Int) ≤ segAt bs 0 % 16 * 4 := by omega
  have hn2 : segAt bs 0 % 16 * 4 ≤ (cap : Int) := by omega
  have TL := Lib.hid (show (bs.take (segAt bs 0 % 16 * 4).toNat).length = (segAt bs 0 % 16 * 4).toNat by rw [List.length_take, HL.out]; omega)
  go_region_held3 (fun _ => True) (trivial)
    (first
      | (go_at_call 41; (with_reducible refine (num_if 7 (by decide) 10 2 rfl rfl b off cap _ _ (by omega) bs H20.out _ R1.out).mono ?_); rintro e w1 ⟨rfl, rfl⟩)
      | (go_at_call 42; refine (rcheckOf_any _ _ _ (bs.take (segAt bs 0 % 16 * 4).toNat) TL.out (by omega) (by omega) W0.drew ((R1.out.more B0.out.size).take _) (fun h => by cases h)).mono ?_; rintro e w8 ⟨rfl, m8'⟩; have m8 : Below W0.heap.size W0 w8 := below_drew m8'))
  have hd8 := (m8.block _ hz0).trans C0.out
  have L8 := B0.out.trans (m8.mono B0.out.size)
  have s8 := m8.size
  clear q0 q1 q2 q3 q4 q5 q6 q7 q8 f0 f1 f2 f3 f4 f5 f6 f7 f8 c0 m8 m8' R1
  have C8 := Lib.hid hd8
  obtain ⟨⟨q0, q1, q2, q3, q4, q5, q6, q7, q8⟩, qf⟩ := nine_cells hd8
  have f0 := qf 0
  have f1 := qf 1
  have f2 := qf 2
  have f3 := qf 3
  have f4 := qf 4
  have f5 := qf 5
  have f6 := qf 6
  have f7 := qf 7
  have f8 := qf 8
  have R8 := Lib.hid (hR.below L8)
  have B8 := Lib.hid L8
  have z8 : w.heap.size < w8.heap.size := (Array.getElem?_eq_some_iff.1 hd8).1
  clear qf hd8 L8
  have HCK := Lib.hid (show chkOf (bs.take (hlOf bs)) = chkOf (bs.take (segAt bs 0 % 16 * 4).toNat) from rfl)
  by_cases e6 : (segAt bs 7 != chkOf (bs.take (segAt bs 0 % 16 * 4).toNat)) = true
  · have HY := Lib.hid (show whyOf bs = 5 by unfold whyOf; rw [if_neg LN.out, if_neg N2.out, if_neg N3.out, if_neg N4.out, if_pos (by rw [HCK.out]; simpa using e6)])
    go_wp2
    refine bodyPost_ret (results_head rfl _ _ w.heap.size _ (0, 0) rfl (full_setCells C8.out [.int .u8 0, .int .u16 0, .int .u16 0, .int .u8 0, .int .u8 0, .int .u32 0, .int .u32 0, .slice none 0 0, .slice none 0 0] rfl) rfl) rfl ?_
    exact .inl ⟨by rw [HY.out]; decide, by rw [HY.out]; rfl, below_setCells w.heap.size (Nat.le_refl _) [.int .u8 0, .int .u16 0, .int .u16 0, .int .u8 0, .int .u8 0, .int .u32 0, .int .u32 0, .slice none 0 0, .slice none 0 0] 0 w _ B8.out⟩
  have e6' : (segAt bs 7 != chkOf (bs.take (segAt bs 0 % 16 * 4).toNat)) = false := by simpa using e6
  have N5 := Lib.hid (show ¬ segAt bs 7 ≠ chkOf (bs.take (hlOf bs)) by rw [HCK.out]; simpa using e6)
  clear e6
  by_cases e7 : segAt bs 4 ≠ 0 ∧ segAt bs 4 ≠ 16384
  · have HY := Lib.hid (show whyOf bs = 6 by unfold whyOf; rw [if_neg LN.out, if_neg N2.out, if_neg N3.out, if_neg N4.out, if_neg N5.out, if_pos e7])
    have g1 : (segAt bs 4 != 0) = true := by simpa using e7.1
    have g2 : (segAt bs 4 != 16384) = true := by simpa using e7.2
    clear e7
    go_wp2_with (go_at_call 41; refine (num_at 4 (by decide) 6 2 rfl rfl b off _ _ bs H20.out _ R8.out).mono ?_; rintro e w1 ⟨rfl, rfl⟩)
    refine bodyPost_ret (results_head rfl _ _ w.heap.size _ (0, 0) rfl (full_setCells C8.out [.int .u8 0, .int .u16 0, .int .u16 0, .int .u8 0, .int .u8 0, .int .u32 0, .int .u32 0, .slice none 0 0, .slice none 0 0] rfl) rfl) rfl ?_
    exact .inl ⟨by rw [HY.out]; decide, by rw [HY.out]; rfl, below_setCells w.heap.size (Nat.le_refl _) [.int .u8 0, .int .u16 0, .int .u16 0, .int .u8 0, .int .u8 0, .int .u32 0, .int .u32 0, .slice none 0 0, .slice none 0 0] 0 w _ B8.out⟩
  have HY := Lib.hid (show whyOf bs = 0 by unfold whyOf; rw [if_neg LN.out, if_neg N2.out, if_neg N3.out, if_neg N4.out, if_neg N5.out, if_neg e7])
  have hg : ((segAt bs 4 != 0) = false) ∨ ((segAt bs 4 != 0) = true ∧ (segAt bs 4 != 16384) = false) := by
    by_cases g : segAt bs 4 = 0
    · left; simpa using g
    · right
      exact ⟨by simpa using g, by simp only [bne_eq_false_iff_eq]; omega⟩
  have CS := Lib.hid (fun W (mm : Below w8.heap.size w8 W) => (show W.cell? ⟨b, off + 1, none⟩ = some (.int .u8 (segAt bs 1)) ∧ W.cell? ⟨b, off + 8, none⟩ = some (.int .u8 (segAt bs 5)) ∧ W.cell? ⟨b, off + 9, none⟩ = some (.int .u8 (segAt bs 6)) from by
    have hbz : b < w8.heap.size := Nat.lt_of_lt_of_le hbw B8.out.size
    obtain ⟨b', off', hA, _, hcz⟩ := C1.out
    injection hA with hA
    injection hA with h1 h2
    subst h1 h2
    have h20 := H20.out
    rw [segAt_byte bs 1 rfl h20 (by decide), segAt_byte bs 5 rfl h20 (by decide), segAt_byte bs 6 rfl h20 (by decide)]
    exact ⟨(mm.cell (p := ⟨b, off + 1, none⟩) hbz).trans ((B8.out.cell (p := ⟨b, off + 1, none⟩) hbw).trans (hcz 1 (by omega))), (mm.cell (p := ⟨b, off + 8, none⟩) hbz).trans ((B8.out.cell (p := ⟨b, off + 8, none⟩) hbw).trans (hcz 8 (by omega))), (mm.cell (p := ⟨b, off + 9, none⟩) hbz).trans ((B8.out.cell (p := ⟨b, off + 9, none⟩) hbw).trans (hcz 9 (by omega)))⟩))
  have RW := Lib.hid (fun W (mm : Below w8.heap.size w8 W) => R8.out.below (mm.mono B8.out.size))
  clear e7
  rcases hg with g1 | ⟨g1, g2⟩
  all_goals
    go_wp2_with (go_at_call 41; refine (num_at 4 (by decide) 6 2 rfl rfl b off _ _ bs H20.out _ R8.out).mono ?_; rintro e w1 ⟨rfl, rfl⟩)
    have N0 := (Below.refl w8.heap.size w8).drew
    have NA := ((Below.refl w8.heap.size w8).alloc (Nat.le_refl _) (.cells #[.int .u8 0, .int .u16 0, .int .u16 0, .int .u8 0, .int .u8 0, .int .u32 0, .int .u32 0, .slice none 0 0, .slice none 0 0] 51)).drew
    have NB := ((Below.refl w8.heap.size w8).alloc (Nat.le_refl _) (.cells #[.int .u8 (segAt bs 1), .int .u16 (segAt bs 3), .int .u16 (segAt bs 4), .int .u8 (segAt bs 5), .int .u8 (segAt bs 6), .int .u32 (segAt bs 8), .int .u32 (segAt bs 9), .slice none 0 0, .slice none 0 0] 51)).drew
    clear q0 q1 q2 q3 q4 q5 q6 q7 q8 f0 f1 f2 f3 f4 f5 f6 f7 f8
    go_cut [5] (fun s5 wx => s5 = .pointer (some ⟨w8.heap.size, 0, none⟩) ∧ wx = (w8.alloc (.cells #[.int .u8 (segAt bs 1), .int .u16 (segAt bs 3), .int .u16 (segAt bs 4), .int .u8 (segAt bs 5), .int .u8 (segAt bs 6), .int .u32 (segAt bs 8), .int .u32 (segAt bs 9), .slice none 0 0, .slice none 0 0] 51)).drew)
    case first =>
      obtain ⟨v1, v2, v3, v4, _⟩ := W16.out
      go_region_held3 (fun W => W.cell? ⟨b, off + 1, none⟩ = some (.int .u8 (segAt bs 1)) ∧ W.cell? ⟨b, off + 8, none⟩ = some (.int .u8 (segAt bs 5)) ∧ W.cell? ⟨b, off + 9, none⟩ = some (.int .u8 (segAt bs 6)))
        (first | with_reducible exact CS.out _ N0 | with_reducible exact CS.out _ NA | with_reducible exact CS.out _ NB)
        (first
          | (go_at_call 41; (first | (with_reducible refine (num_if 3 (by decide) 4 2 rfl rfl b off cap _ _ (by omega) bs H20.out _ (RW.out _ N0)).mono ?_) | (with_reducible refine (num_if 3 (by decide) 4 2 rfl rfl b off cap _ _ (by omega) bs H20.out _ (RW.out _ NA)).mono ?_)); rintro e w1 ⟨rfl, rfl⟩)
          | (go_at_call 41; (first | (with_reducible refine (num_at 3 (by decide) 4 2 rfl rfl b off _ _ bs H20.out _ (RW.out _ N0)).mono ?_) | (with_reducible refine (num_at 3 (by decide) 4 2 rfl rfl b off _ _ bs H20.out _ (RW.out _ NA)).mono ?_)); rintro e w1 ⟨rfl, rfl⟩)
          | (go_at_call 41; (first | (with_reducible refine (num_if 4 (by decide) 6 2 rfl rfl b off cap _ _ (by omega) bs H20.out _ (RW.out _ N0)).mono ?_) | (with_reducible refine (num_if 4 (by decide) 6 2 rfl rfl b off cap _ _ (by omega) bs H20.out _ (RW.out _ NA)).mono ?_)); rintro e w1 ⟨rfl, rfl⟩)
          | (go_at_call 41; (first | (with_reducible refine (num_at 4 (by decide) 6 2 rfl rfl b off _ _ bs H20.out _ (RW.out _ N0)).mono ?_) | (with_reducible refine (num_at 4 (by decide) 6 2 rfl rfl b off _ _ bs H20.out _ (RW.out _ NA)).mono ?_)); rintro e w1 ⟨rfl, rfl⟩)
          | (go_at_call 41; (first | (with_reducible refine (num_if 8 (by decide) 12 4 rfl rfl b off cap _ _ (by omega) bs H20.out _ (RW.out _ N0)).mono ?_) | (with_reducible refine (num_if 8 (by decide) 12 4 rfl rfl b off cap _ _ (by omega) bs H20.out _ (RW.out _ NA)).mono ?_)); rintro e w1 ⟨rfl, rfl⟩)
          | (go_at_call 41; (first | (with_reducible refine (num_at 8 (by decide) 12 4 rfl rfl b off _ _ bs H20.out _ (RW.out _ N0)).mono ?_) | (with_reducible refine (num_at 8 (by decide) 12 4 rfl rfl b off _ _ bs H20.out _ (RW.out _ NA)).mono ?_)); rintro e w1 ⟨rfl, rfl⟩)
          | (go_at_call 41; (first | (with_reducible refine (num_if 9 (by decide) 16 4 rfl rfl b off cap _ _ (by omega) bs H20.out _ (RW.out _ N0)).mono ?_) | (with_reducible refine (num_if 9 (by decide) 16 4 rfl rfl b off cap _ _ (by omega) bs H20.out _ (RW.out _ NA)).mono ?_)); rintro e w1 ⟨rfl, rfl⟩)
          | (go_at_call 41; (first | (with_reducible refine (num_at 9 (by decide) 16 4 rfl rfl b off _ _ bs H20.out _ (RW.out _ N0)).mono ?_) | (with_reducible refine (num_at 9 (by decide) 16 4 rfl rfl b off _ _ bs H20.out _ (RW.out _ NA)).mono ?_)); rintro e w1 ⟨rfl, rfl⟩))
      all_goals (go_wp2_with fail; go_meet; exact ⟨rfl, rfl⟩)
    case rest =>
      obtain ⟨rfl, rfl⟩ := hcut
      have hB9 : ((w8.alloc (.cells #[.int .u8 (segAt bs 1), .int .u16 (segAt bs 3), .int .u16 (segAt bs 4), .int .u8 (segAt bs 5), .int .u8 (segAt bs 6), .int .u32 (segAt bs 8), .int .u32 (segAt bs 9), .slice none 0 0, .slice none 0 0] 51)).drew).heap[w8.heap.size]? = some (.cells #[.int .u8 (segAt bs 1), .int .u16 (segAt bs 3), .int .u16 (segAt bs 4), .int .u8 (segAt bs 5), .int .u8 (segAt bs 6), .int .u32 (segAt bs 8), .int .u32 (segAt bs 9), .slice none 0 0, .slice none 0 0] 51 (0, 0)) := heap_alloc_new w8 (.cells #[.int .u8 (segAt bs 1), .int .u16 (segAt bs 3), .int .u16 (segAt bs 4), .int .u8 (segAt bs 5), .int .u8 (segAt bs 6), .int .u32 (segAt bs 8), .int .u32 (segAt bs 9), .slice none 0 0, .slice none 0 0] 51)
      have z9 := (Array.getElem?_eq_some_iff.1 hB9).1
      have M9 := NB
      generalize (w8.alloc (.cells #[.int .u8 (segAt bs 1), .int .u16 (segAt bs 3), .int .u16 (segAt bs 4), .int .u8 (segAt bs 5), .int .u8 (segAt bs 6), .int .u32 (segAt bs 8), .int .u32 (segAt bs 9), .slice none 0 0, .slice none 0 0] 51)).drew = w9 at *
      clear N0 NA NB
      have x7 := (nine_cells hB9).1.2.2.2.2.2.2.2.1
      have ho9 : ((bs.take (segAt bs 0 % 16 * 4).toNat).drop 20).length = (segAt bs 0 % 16 * 4).toNat - 20 := by rw [List.length_drop, TL.out]
      have hp9 : (bs.drop (segAt bs 0 % 16 * 4).toNat).length = len - (segAt bs 0 % 16 * 4).toNat := by rw [List.length_drop, HL.out]
      have R9 := RW.out _ M9
      have RO := (R9.take (segAt bs 0 % 16 * 4).toNat).dropIf 20 (c := cap = 20) (fun h => List.eq_nil_of_length_eq_zero (by rw [ho9]; omega))
      obtain ⟨ad, hAO⟩ : ∃ ad : Addr, (if cap = 20 then some (⟨b, off, none⟩ : Addr) else some ⟨b, off + 20, none⟩) = some ad := by split <;> exact ⟨_, rfl⟩
      rw [hAO] at RO
      obtain ⟨OS, hOS⟩ : ∃ l, (bs.take (segAt bs 0 % 16 * 4).toNat).drop 20 = l := ⟨_, rfl⟩
      rw [hOS] at RO ho9
      have HOS := Lib.hid hOS
      have RO := Lib.hid RO
      have HO9 := Lib.hid ho9
      have HP9 := Lib.hid hp9
      clear hOS ho9 hp9 R9
      obtain ⟨i0, hi, hz0', hz1, hz2⟩ := info_parts Tryd.infoU8
      go_wp2
      go_region_law (refine step_append_some w9.drew (by rfl) _ _ _ (by rfl) w9.heap.size 5 i0 (.int .u8 0) 1 Tryd.underlying27 hi hz0' hz1 hz2 rfl (.slice none 0 0) 0 [] (by rfl) (World.ownsRow_nil _ _ _ _) ad ((segAt bs 0 % 16 * 4).toNat - 20) (cap - 20) (OS.map (Value.int .u8)) (by rfl) (by rw [List.length_map, HO9.out]) (row_cells RO.out) (one_u8 _) (by unfold maxLen; omega) (by omega) (Nat.le_refl _) ?_; intro v10 w10 O10 hg10; simp only [Nat.zero_add, List.nil_append] at O10; have M10 : Below w9.heap.size w9 w10 := below_drew ((Below.refl _ w9.drew).grown hg10 (Nat.le_refl _) (fun e he => by cases he)); obtain ⟨ao, co, rfl⟩ := own_slice O10; have hB10 := (M10.block _ z9).trans hB9; have y7 := (nine_cells hB10).1.2.2.2.2.2.2.2.1; have f7 := (nine_cells hB10).2 7)
      have hB11 : (w10.setCell ⟨w8.heap.size, 7, none⟩ (.slice ao ((segAt bs 0 % 16 * 4).toNat - 20) co)).heap[w8.heap.size]? = some (.cells #[.int .u8 (segAt bs 1), .int .u16 (segAt bs 3), .int .u16 (segAt bs 4), .int .u8 (segAt bs 5), .int .u8 (segAt bs 6), .int .u32 (segAt bs 8), .int .u32 (segAt bs 9), .slice ao ((segAt bs 0 % 16 * 4).toNat - 20) co, .slice none 0 0] 51 (0, 0)) := heap_setCell_same w10 w8.heap.size 7 _ _ (.slice ao ((segAt bs 0 % 16 * 4).toNat - 20) co) hB10
      have O11 := own_apart O10 hB10 (by decide) 7 (.slice ao ((segAt bs 0 % 16 * 4).toNat - 20) co)
      have K11 := (M9.trans (M10.mono M9.size)).setCell (p := ⟨w8.heap.size, 7, none⟩) (Nat.le_refl _) (.slice ao ((segAt bs 0 % 16 * 4).toNat - 20) co)
      have E10 := M10.size
      have E11 : w10.heap.size ≤ (w10.setCell ⟨w8.heap.size, 7, none⟩ (.slice ao ((segAt bs 0 % 16 * 4).toNat - 20) co)).heap.size := by simp
      clear hB9 x7 O10 hg10 hB10 y7 f7 M10
      generalize w10.setCell ⟨w8.heap.size, 7, none⟩ (.slice ao ((segAt bs 0 % 16 * 4).toNat - 20) co) = w11 at *
      have z11 := (Array.getElem?_eq_some_iff.1 hB11).1
      have x8 := (nine_cells hB11).1.2.2.2.2.2.2.2.2
      have RP := (RW.out _ K11).dropIf (segAt bs 0 % 16 * 4).toNat (c := cap = (segAt bs 0 % 16 * 4).toNat) (fun h => List.eq_nil_of_length_eq_zero (by rw [HP9.out]; omega))
      obtain ⟨ap, hAP⟩ : ∃ ad : Addr, (if cap = (segAt bs 0 % 16 * 4).toNat then some (⟨b, off, none⟩ : Addr) else some ⟨b, off + (segAt bs 0 % 16 * 4).toNat, none⟩) = some ad := by split <;> exact ⟨_, rfl⟩
      rw [hAP] at RP
      obtain ⟨PS, hPS⟩ : ∃ l, bs.drop (segAt bs 0 % 16 * 4).toNat = l := ⟨_, rfl⟩
      rw [hPS] at RP
      have HPS := Lib.hid hPS
      have RP := Lib.hid RP
      have HP10 := Lib.hid (show PS.length = len - (segAt bs 0 % 16 * 4).toNat by rw [← hPS]; exact HP9.out)
      clear hPS
      have hln3 : segAt bs 0 % 16 * 4 ≤ (len : Int) := by omega
      go_wp2
      go_region_law (refine step_append_some w11.drew (by rfl) _ _ _ (by rfl) w11.heap.size 5 i0 (.int .u8 0) 1 Tryd.underlying27 hi hz0' hz1 hz2 rfl (.slice none 0 0) 0 [] (by rfl) (World.ownsRow_nil _ _ _ _) ap (len - (segAt bs 0 % 16 * 4).toNat) (cap - (segAt bs 0 % 16 * 4).toNat) (PS.map (Value.int .u8)) (by rfl) (by rw [List.length_map, HP10.out]) (row_cells RP.out) (one_u8 _) (by unfold maxLen; omega) (by omega) (Nat.le_refl _) ?_; intro v12 w12 O12 hg12; simp only [Nat.zero_add, List.nil_append] at O12; have M12 : Below w11.heap.size w11 w12 := below_drew ((Below.refl _ w11.drew).grown hg12 (Nat.le_refl _) (fun e he => by cases he)); obtain ⟨po, pq, rfl⟩ := own_slice O12; have hB12 := (M12.block _ z11).trans hB11; have y8 := (nine_cells hB12).1.2.2.2.2.2.2.2.2; have f8 := (nine_cells hB12).2 8)
      have hB13 : (w12.setCell ⟨w8.heap.size, 8, none⟩ (.slice po (len - (segAt bs 0 % 16 * 4).toNat) pq)).heap[w8.heap.size]? = some (.cells #[.int .u8 (segAt bs 1), .int .u16 (segAt bs 3), .int .u16 (segAt bs 4), .int .u8 (segAt bs 5), .int .u8 (segAt bs 6), .int .u32 (segAt bs 8), .int .u32 (segAt bs 9), .slice ao ((segAt bs 0 % 16 * 4).toNat - 20) co, .slice po (len - (segAt bs 0 % 16 * 4).toNat) pq] 51 (0, 0)) := heap_setCell_same w12 w8.heap.size 8 _ _ (.slice po (len - (segAt bs 0 % 16 * 4).toNat) pq) hB12
      have O13 := own_apart (own_below O11 M12) hB12 (by decide) 8 (.slice po (len - (segAt bs 0 % 16 * 4).toNat) pq)
      have P13 := own_apart O12 hB12 (by decide) 8 (.slice po (len - (segAt bs 0 % 16 * 4).toNat) pq)
      have K13 := (K11.trans (M12.mono K11.size)).setCell (p := ⟨w8.heap.size, 8, none⟩) (Nat.le_refl _) (.slice po (len - (segAt bs 0 % 16 * 4).toNat) pq)
      clear x8 O11 O12 hg12 hB12 hB11 y8 f8 M12 hAO hAP
      generalize w12.setCell ⟨w8.heap.size, 8, none⟩ (.slice po (len - (segAt bs 0 % 16 * 4).toNat) pq) = w13 at *
      have hd13 := (K13.block _ z8).trans C8.out
      obtain ⟨⟨q0, q1, q2, q3, q4, q5, q6, q7, q8⟩, _⟩ := nine_cells hB13
      obtain ⟨⟨r0, r1, r2, r3, r4, r5, r6, r7, r8⟩, rf⟩ := nine_cells hd13
      have f0 := rf 0
      have f1 := rf 1
      have f2 := rf 2
      have f3 := rf 3
      have f4 := rf 4
      have f5 := rf 5
      have f6 := rf 6
      have f7 := rf 7
      have f8 := rf 8
      have HD := Lib.hid hd13
      have HK := Lib.hid K13
      have O13 := Lib.hid O13
      have P13 := Lib.hid P13
      clear hd13 K13 hB13 rf
      go_wp2
      obtain ⟨_, _, _, _, u1, u3, u4, u5, u6⟩ := W16.out
      refine bodyPost_ret (results_head rfl _ _ w.heap.size _ (0, 0) rfl (full_setCells HD.out [.int .u8 (segAt bs 1), .int .u16 (segAt bs 3), .int .u16 (segAt bs 4), .int .u8 (segAt bs 5), .int .u8 (segAt bs 6), .int .u32 (segAt bs 8), .int .u32 (segAt bs 9), .slice ao ((segAt bs 0 % 16 * 4).toNat - 20) co, .slice po (len - (segAt bs 0 % 16 * 4).toNat) pq] rfl) rfl) rfl ?_
      have hE1 : (bs.take (hlOf bs)).drop 20 = OS := by rw [HH.out]; exact HOS.out
      have hE2 : bs.drop (hlOf bs) = PS := by rw [HH.out]; exact HPS.out
      have b89 : w.heap.size ≤ w9.heap.size := Nat.le_trans B8.out.size M9.size
      unfold ParseRet
      rw [hE1, hE2, u1, u3, u4, u5, u6]
      refine .inr ⟨HY.out, _, rfl, ao, co, po, pq, by rw [HO9.out, HP10.out], ?_, ?_, ?_⟩
      · rw [HO9.out]
        exact own_base (own_apartN (by decide) [.int .u8 (segAt bs 1), .int .u16 (segAt bs 3), .int .u16 (segAt bs 4), .int .u8 (segAt bs 5), .int .u8 (segAt bs 6), .int .u32 (segAt bs 8), .int .u32 (segAt bs 9), .slice ao ((segAt bs 0 % 16 * 4).toNat - 20) co, .slice po (len - (segAt bs 0 % 16 * 4).toNat) pq] 0 _ _ O13.out HD.out) b89
      · rw [HP10.out]
        exact own_base (own_apartN (by decide) [.int .u8 (segAt bs 1), .int .u16 (segAt bs 3), .int .u16 (segAt bs 4), .int .u8 (segAt bs 5), .int .u8 (segAt bs 6), .int .u32 (segAt bs 8), .int .u32 (segAt bs 9), .slice ao ((segAt bs 0 % 16 * 4).toNat - 20) co, .slice po (len - (segAt bs 0 % 16 * 4).toNat) pq] 0 _ _ P13.out HD.out) (Nat.le_trans b89 (Nat.le_trans E10 E11))
      · exact below_setCells w.heap.size (Nat.le_refl _) [.int .u8 (segAt bs 1), .int .u16 (segAt bs 3), .int .u16 (segAt bs 4), .int .u8 (segAt bs 5), .int .u8 (segAt bs 6), .int .u32 (segAt bs 8), .int .u32 (segAt bs 9), .slice ao ((segAt bs 0 % 16 * 4).toNat - 20) co, .slice po (len - (segAt bs 0 % 16 * 4).toNat) pq] 0 w _ (B8.out.trans (HK.out.mono B8.out.size))
end Go.Proofs.YthenbpnlmpeafaaDoor
