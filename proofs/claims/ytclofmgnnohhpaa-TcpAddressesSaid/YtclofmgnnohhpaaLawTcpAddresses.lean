/- 'handfastlaw03.TcpAddresses' returns true at every two addresses, every head, half and word, and leaves what lay as it lay. -/
import Derived.Test.YtclofmgnnohhpaaTcpX
namespace Go.Proofs.Ytclofmgnnohhpaa
open Go.RowKit
open SumM

theorem or_bound (s t : Int) (hs : 0 ≤ s ∧ s ≤ 4294967295) (ht : 0 ≤ t ∧ t ≤ 4294967295) : 0 ≤ bits .or .u32 (bits .and .u32 s 4294901760) t ∧ bits .or .u32 (bits .and .u32 s 4294901760) t ≤ 4294967295 := by
  have e1 := u32_and s 4294901760 hs.1 (by omega) (by omega) (by omega)
  have l1 : s.toNat &&& (4294901760 : Int).toNat < 2 ^ 32 := Nat.and_lt_two_pow _ (by decide)
  rw [e1]
  have e2 := u32_or ((s.toNat &&& (4294901760 : Int).toNat : Nat) : Int) t (by omega) (by omega) ht.1 (by omega)
  have l2 : ((s.toNat &&& (4294901760 : Int).toNat : Nat) : Int).toNat ||| t.toNat < 2 ^ 32 := Nat.or_lt_two_pow (by omega) (by omega)
  rw [e2]
  omega
theorem other_bool {s d x y : Int} (hs : 0 ≤ s ∧ s ≤ 4294967295) (hd : 0 ≤ d ∧ d ≤ 4294967295) (hx : 0 ≤ x ∧ x ≤ 4294967295) (hy : 0 ≤ y ∧ y ≤ 4294967295) {bs : List Int} (hin : In 255 bs) (h0 : twhy s d bs = 0) (n : Nat) (hn : bs.length = n) :
    ((twhy x y bs == 9) == (sumOf (psOf s d n) != sumOf (psOf x y n))) = true := by
  have h := twhy_other hs hd hx hy hin h0
  rw [hn] at h
  rw [beq_iff_eq, Bool.eq_iff_iff]
  simpa using h

set_option maxRecDepth 100000 in
set_option maxHeartbeats 8000000 in
theorem tcpAddresses_walk (s d : Int) (sp dp tf hd : Int) (da : Option Addr) (dn dc : Nat) (ps : List Int) (half b : Int) (w : World) (w0 : (Lit.int .u32 s).wf = true) (w1 : (Lit.int .u32 d).wf = true) (h : IsTcp w sp dp tf hd da dn dc ps) (_ : (Lit.int .i64 half).wf = true) (w4 : (Lit.int .u16 b).wf = true) :
    Calls Try.prog 6 #[.int .u32 s, .int .u32 d, .agg #[.int .u16 sp, .int .u16 dp, .int .u8 tf, .int .i64 hd, .slice da dn dc], .int .i64 half, .int .u16 b] w fun e w' => e = .returned (.bool true) ∧ Below w.heap.size w w' := by
  have hs := wf_u32.1 w0
  have hd0 := wf_u32.1 w1
  have hb := wf_u16.1 w4
  obtain ⟨hN, hhd, hrp, hpl, hpn, hpc⟩ := h
  clear w0 w1 w4
  unfold maxLen at hpc
  have HN := Lib.hid hN
  have HP := Lib.hid hpl
  have NP := Lib.hid hpn
  have RP := Lib.hid (fun W (m : Below w.heap.size w W) => (hrp.below m).more m.size)
  have PI := Lib.hid (row_in hrp)
  have hH0 := heap_alloc_new w (.cells #[.int .u16 sp, .int .u16 dp, .int .u8 tf, .int .i64 hd, .slice da dn dc] 26)
  have L0 := (Below.refl w.heap.size w).alloc (Nat.le_refl _) (.cells #[.int .u16 sp, .int .u16 dp, .int .u8 tf, .int .i64 hd, .slice da dn dc] 26)
  clear hN hrp hpn
  obtain ⟨q00, q01, q02, q03, q04⟩ := tcp_cells _ _ _ _ _ _ _ hH0
  by_cases hbig : 3000 < dn ∨ b = 0 ∨ b = 65535 ∨ half < 0 ∨ 3 < half
  · have hcase : (decide ((3000 : Int) < (dn : Int)) = true) ∨ (decide ((3000 : Int) < (dn : Int)) = false ∧ (b == 0) = true) ∨ (decide ((3000 : Int) < (dn : Int)) = false ∧ (b == 0) = false ∧ (b == 65535) = true) ∨
        (decide ((3000 : Int) < (dn : Int)) = false ∧ (b == 0) = false ∧ (b == 65535) = false ∧ decide (half < 0) = true) ∨ (decide ((3000 : Int) < (dn : Int)) = false ∧ (b == 0) = false ∧ (b == 65535) = false ∧ decide (half < 0) = false ∧ decide (3 < half) = true) := by
      simp only [decide_eq_true_eq, decide_eq_false_iff_not, beq_iff_eq, beq_eq_false_iff_ne]
      omega
    clear hbig hpl
    rcases hcase with c1 | ⟨c1, c2⟩ | ⟨c1, c2, c3⟩ | ⟨c1, c2, c3, c4⟩ | ⟨c1, c2, c3, c4, c5⟩
    all_goals
      go_enter Try.func6, Try.ntmps6
      go_wp2_with (go_at_call 7; refine (twakes_any _).mono ?_; rintro e w3 ⟨rfl, m3⟩)
      go_ret
      exact ⟨rfl, L0.trans (m3.mono L0.size)⟩
  have c1 : decide ((3000 : Int) < (dn : Int)) = false := decide_eq_false (by omega)
  have c2 : (b == 0) = false := by simp; omega
  have c3 : (b == 65535) = false := by simp; omega
  have c4 : decide (half < 0) = false := decide_eq_false (by omega)
  have c5 : decide (3 < half) = false := decide_eq_false (by omega)
  have hdn : dn ≤ 3000 := by omega
  by_cases hmay : mayB hd dn = true
  rotate_left
  · have hm := Lib.hid (show mayB hd dn = false by simpa using hmay)
    clear hmay hpl hbig
    go_enter Try.func6, Try.ntmps6
    go_upto_region 3 with (fail)
    generalize w.alloc (.cells #[.int .u16 sp, .int .u16 dp, .int .u8 tf, .int .i64 hd, .slice da dn dc] 26) = W0 at *
    go_wp2_with (first
      | (go_at_call 10; refine (tcpPut_no s d sp dp tf hd da dn dc hhd (by omega) hm.out W0).mono ?_; rintro e w1 ⟨rfl, m1⟩; have L1 := L0.trans (m1.mono L0.size))
      | (go_at_call 7; refine (twakes_any w1).mono ?_; rintro e w3 ⟨rfl, m3⟩))
    go_ret
    exact ⟨rfl, L1.trans (m3.mono L1.size)⟩
  obtain ⟨m1, m2, m3, m4⟩ := mayB_le hmay
  have HM := Lib.hid hmay
  have hlen : (tput s d sp dp tf hd ps).length = hd.toNat + dn := by rw [tput_length, hpl]
  have HLE := Lib.hid hlen
  have TI := Lib.hid (tput_in (s := s) (d := d) HN.out ⟨m1, m2⟩ PI.out)
  have TW := Lib.hid (twhy_put (sp := sp) (dp := dp) (tf := tf) (hd := hd) (ps := ps) hs hd0 HN.out (by rw [hpl]; exact hmay) PI.out)
  clear hmay hlen
  go_enter Try.func6, Try.ntmps6
  go_upto_region 3 with (fail)
  generalize w.alloc (.cells #[.int .u16 sp, .int .u16 dp, .int .u8 tf, .int .i64 hd, .slice da dn dc] 26) = W0 at *
  go_wp2_with fail
  refine (tcpPut_yes s d sp dp tf hd da dn dc ps hs hd0 HN.out HM.out W0 (RP.out _ L0) HP.out NP.out).mono ?_
  rintro e w1 ⟨A1, c1', rfl, O1, k1⟩
  have L1 := L0.trans (k1.mono L0.size)
  have C1 := own_cap O1
  obtain ⟨bs, hbs⟩ : ∃ l, tput s d sp dp tf hd ps = l := ⟨_, rfl⟩
  rw [hbs] at O1
  have TI := Lib.hid (show In 255 bs from hbs ▸ TI.out)
  have TW := Lib.hid (show twhy s d bs = 0 from hbs ▸ TW.out)
  have HLE := Lib.hid (show bs.length = hd.toNat + dn from hbs ▸ HLE.out)
  have R1 := Row.of_own O1 (in_wf8 TI.out)
  clear q00 q01 q02 q03 q04 hH0 L0 k1 hbs hpl O1
  obtain ⟨ln, hln⟩ : ∃ k, hd.toNat + dn = k := ⟨_, rfl⟩
  have hlnb : 20 ≤ ln ∧ ln ≤ 65535 := by omega
  rw [hln] at C1 HLE ⊢
  have HLN := Lib.hid hln
  clear hln
  have PP := Lib.hid (tcpParse_any d s hd0 hs A1 ln c1' bs HLE.out C1.1 C1.2 w1 R1)
  go_wp2_with fail
  refine PP.out.mono ?_
  intro e w2 hp
  obtain ⟨v1, v2, v3, v4, va, vn, vc, vp, rfl, _, _, _, k2⟩ := tparse_as TI.out hp
  clear hp
  rw [(twhy_swap s d bs).trans TW.out]
  have k2' := k2.alloc k2.size (.cells #[.int .u16 v1, .int .u16 v2, .int .u8 v3, .int .i64 v4, .slice va vn vc] 26)
  have L3 := L1.trans (k2'.mono L1.size)
  have R3 := R1.step k2'
  clear k2 k2' L1 R1 PP
  go_upto_region 7 with (fail)
  generalize w2.alloc (.cells #[.int .u16 v1, .int .u16 v2, .int .u8 v3, .int .i64 v4, .slice va vn vc] 26) = w3 at *
  have hh : half = 0 ∨ half = 1 ∨ half = 2 ∨ half = 3 := by omega
  rcases hh with rfl | rfl | rfl | rfl
  · go_upto_region 17 with (fail)
    have hX := or_bound s (IntKind.u16.wrap (IntKind.u16.wrap s + b) % 4294967296) hs (by omega)
    generalize bits BinOp.or IntKind.u32 (bits BinOp.and IntKind.u32 s 4294901760) (IntKind.u16.wrap (IntKind.u16.wrap s + b) % 4294967296) = X at *
    clear hb c1 c2 c3 c4 c5 hbig
    have OB := Lib.hid (other_bool hs hd0 hX hd0 TI.out TW.out ln HLE.out)
    have PX := Lib.hid (tcpParse_any X d hX hd0 A1 ln c1' bs HLE.out C1.1 C1.2 w3 R3)
    have PI1 := Lib.hid (in_wf8 (psOf_in hs hd0 (ln : Int)))
    have PI2 := Lib.hid (in_wf8 (psOf_in hX hd0 (ln : Int)))
    go_wp2_with fail
    refine PX.out.mono ?_
    intro e w4 hp
    obtain ⟨x1, x2, x3, x4, xa, xn, xc, xp, rfl, _, _, _, k4⟩ := tparse_as TI.out hp
    have k5 := k4.alloc k4.size (.cells #[.int .u16 x1, .int .u16 x2, .int .u8 x3, .int .i64 x4, .slice xa xn xc] 26)
    have L5 := L3.trans (k5.mono L3.size)
    clear hp k4 k5 L3 R3 PX
    go_upto_region 18 with (fail)
    generalize w4.alloc (.cells #[.int .u16 x1, .int .u16 x2, .int .u8 x3, .int .i64 x4, .slice xa xn xc] 26) = w5 at *
    generalize twhy X d bs = yy at *
    go_wp2_with fail
    refine (pseudo_any s d ln hs hd0 w5).mono ?_
    rintro e w6 ⟨rfl, rfl⟩
    have L6 := L5.trans ((psW_below s d ln w5).mono L5.size)
    have R6 : Row .u8 (psW s d ln w5).heap.size (psW s d ln w5) (some ⟨w5.heap.size, 0, none⟩) (psOf s d ln) := by
      rw [psW_size]
      exact Row.built .u8 w5 50 (psOf s d ln) PI1.out
    generalize psW s d ln w5 = w6 at *
    go_wp2_with fail
    refine (pseudo_any X d ln hX hd0 w6).mono ?_
    rintro e w7 ⟨rfl, rfl⟩
    have L7 := L6.trans ((psW_below X d ln w6).mono L6.size)
    have R6' := R6.step (psW_below X d ln w6)
    have R7 : Row .u8 (psW X d ln w6).heap.size (psW X d ln w6) (some ⟨w6.heap.size, 0, none⟩) (psOf X d ln) := by
      rw [psW_size]
      exact Row.built .u8 w6 50 (psOf X d ln) PI2.out
    generalize psW X d ln w6 = w7 at *
    clear R6 L5 L6
    go_wp2_with fail
    refine (rsum_any _ 12 12 (psOf s d ln) rfl (by omega) w7 R6').mono ?_
    rintro e w8 ⟨rfl, k8⟩
    have R8 := R7.step k8
    have L8 := L7.trans (k8.mono L7.size)
    go_wp2_with fail
    refine (rsum_any _ 12 12 (psOf X d ln) rfl (by omega) w8 R8).mono ?_
    rintro e w9 ⟨rfl, k9⟩
    have L9 := L8.trans (k9.mono L8.size)
    have ob := OB.out
    clear R8 L8 L7 R7 R6' k8 k9
    go_wp2_with (go_at_call 7; refine (twakes_any w9).mono ?_; rintro e w10 ⟨rfl, k10⟩)
    go_ret
    exact ⟨rfl, L9.trans (k10.mono L9.size)⟩
  · go_upto_region 17 with (fail)
    have hX : 0 ≤ (s + b * 65536) % 4294967296 ∧ (s + b * 65536) % 4294967296 ≤ 4294967295 := by omega
    generalize (s + b * 65536) % 4294967296 = X at *
    clear hb c1 c2 c3 c4 c5 hbig
    have OB := Lib.hid (other_bool hs hd0 hX hd0 TI.out TW.out ln HLE.out)
    have PX := Lib.hid (tcpParse_any X d hX hd0 A1 ln c1' bs HLE.out C1.1 C1.2 w3 R3)
    have PI1 := Lib.hid (in_wf8 (psOf_in hs hd0 (ln : Int)))
    have PI2 := Lib.hid (in_wf8 (psOf_in hX hd0 (ln : Int)))
    go_wp2_with fail
    refine PX.out.mono ?_
    intro e w4 hp
    obtain ⟨x1, x2, x3, x4, xa, xn, xc, xp, rfl, _, _, _, k4⟩ := tparse_as TI.out hp
    have k5 := k4.alloc k4.size (.cells #[.int .u16 x1, .int .u16 x2, .int .u8 x3, .int .i64 x4, .slice xa xn xc] 26)
    have L5 := L3.trans (k5.mono L3.size)
    clear hp k4 k5 L3 R3 PX
    go_upto_region 18 with (fail)
    generalize w4.alloc (.cells #[.int .u16 x1, .int .u16 x2, .int .u8 x3, .int .i64 x4, .slice xa xn xc] 26) = w5 at *
    generalize twhy X d bs = yy at *
    go_wp2_with fail
    refine (pseudo_any s d ln hs hd0 w5).mono ?_
    rintro e w6 ⟨rfl, rfl⟩
    have L6 := L5.trans ((psW_below s d ln w5).mono L5.size)
    have R6 : Row .u8 (psW s d ln w5).heap.size (psW s d ln w5) (some ⟨w5.heap.size, 0, none⟩) (psOf s d ln) := by
      rw [psW_size]
      exact Row.built .u8 w5 50 (psOf s d ln) PI1.out
    generalize psW s d ln w5 = w6 at *
    go_wp2_with fail
    refine (pseudo_any X d ln hX hd0 w6).mono ?_
    rintro e w7 ⟨rfl, rfl⟩
    have L7 := L6.trans ((psW_below X d ln w6).mono L6.size)
    have R6' := R6.step (psW_below X d ln w6)
    have R7 : Row .u8 (psW X d ln w6).heap.size (psW X d ln w6) (some ⟨w6.heap.size, 0, none⟩) (psOf X d ln) := by
      rw [psW_size]
      exact Row.built .u8 w6 50 (psOf X d ln) PI2.out
    generalize psW X d ln w6 = w7 at *
    clear R6 L5 L6
    go_wp2_with fail
    refine (rsum_any _ 12 12 (psOf s d ln) rfl (by omega) w7 R6').mono ?_
    rintro e w8 ⟨rfl, k8⟩
    have R8 := R7.step k8
    have L8 := L7.trans (k8.mono L7.size)
    go_wp2_with fail
    refine (rsum_any _ 12 12 (psOf X d ln) rfl (by omega) w8 R8).mono ?_
    rintro e w9 ⟨rfl, k9⟩
    have L9 := L8.trans (k9.mono L8.size)
    have ob := OB.out
    clear R8 L8 L7 R7 R6' k8 k9
    go_wp2_with (go_at_call 7; refine (twakes_any w9).mono ?_; rintro e w10 ⟨rfl, k10⟩)
    go_ret
    exact ⟨rfl, L9.trans (k10.mono L9.size)⟩
  · go_upto_region 17 with (fail)
    have hX := or_bound d (IntKind.u16.wrap (IntKind.u16.wrap d + b) % 4294967296) hd0 (by omega)
    generalize bits BinOp.or IntKind.u32 (bits BinOp.and IntKind.u32 d 4294901760) (IntKind.u16.wrap (IntKind.u16.wrap d + b) % 4294967296) = X at *
    clear hb c1 c2 c3 c4 c5 hbig
    have OB := Lib.hid (other_bool hs hd0 hs hX TI.out TW.out ln HLE.out)
    have PX := Lib.hid (tcpParse_any s X hs hX A1 ln c1' bs HLE.out C1.1 C1.2 w3 R3)
    have PI1 := Lib.hid (in_wf8 (psOf_in hs hd0 (ln : Int)))
    have PI2 := Lib.hid (in_wf8 (psOf_in hs hX (ln : Int)))
    go_wp2_with fail
    refine PX.out.mono ?_
    intro e w4 hp
    obtain ⟨x1, x2, x3, x4, xa, xn, xc, xp, rfl, _, _, _, k4⟩ := tparse_as TI.out hp
    have k5 := k4.alloc k4.size (.cells #[.int .u16 x1, .int .u16 x2, .int .u8 x3, .int .i64 x4, .slice xa xn xc] 26)
    have L5 := L3.trans (k5.mono L3.size)
    clear hp k4 k5 L3 R3 PX
    go_upto_region 18 with (fail)
    generalize w4.alloc (.cells #[.int .u16 x1, .int .u16 x2, .int .u8 x3, .int .i64 x4, .slice xa xn xc] 26) = w5 at *
    generalize twhy s X bs = yy at *
    go_wp2_with fail
    refine (pseudo_any s d ln hs hd0 w5).mono ?_
    rintro e w6 ⟨rfl, rfl⟩
    have L6 := L5.trans ((psW_below s d ln w5).mono L5.size)
    have R6 : Row .u8 (psW s d ln w5).heap.size (psW s d ln w5) (some ⟨w5.heap.size, 0, none⟩) (psOf s d ln) := by
      rw [psW_size]
      exact Row.built .u8 w5 50 (psOf s d ln) PI1.out
    generalize psW s d ln w5 = w6 at *
    go_wp2_with fail
    refine (pseudo_any s X ln hs hX w6).mono ?_
    rintro e w7 ⟨rfl, rfl⟩
    have L7 := L6.trans ((psW_below s X ln w6).mono L6.size)
    have R6' := R6.step (psW_below s X ln w6)
    have R7 : Row .u8 (psW s X ln w6).heap.size (psW s X ln w6) (some ⟨w6.heap.size, 0, none⟩) (psOf s X ln) := by
      rw [psW_size]
      exact Row.built .u8 w6 50 (psOf s X ln) PI2.out
    generalize psW s X ln w6 = w7 at *
    clear R6 L5 L6
    go_wp2_with fail
    refine (rsum_any _ 12 12 (psOf s d ln) rfl (by omega) w7 R6').mono ?_
    rintro e w8 ⟨rfl, k8⟩
    have R8 := R7.step k8
    have L8 := L7.trans (k8.mono L7.size)
    go_wp2_with fail
    refine (rsum_any _ 12 12 (psOf s X ln) rfl (by omega) w8 R8).mono ?_
    rintro e w9 ⟨rfl, k9⟩
    have L9 := L8.trans (k9.mono L8.size)
    have ob := OB.out
    clear R8 L8 L7 R7 R6' k8 k9
    go_wp2_with (go_at_call 7; refine (twakes_any w9).mono ?_; rintro e w10 ⟨rfl, k10⟩)
    go_ret
    exact ⟨rfl, L9.trans (k10.mono L9.size)⟩
  · go_upto_region 17 with (fail)
    have hX : 0 ≤ (d + b * 65536) % 4294967296 ∧ (d + b * 65536) % 4294967296 ≤ 4294967295 := by omega
    generalize (d + b * 65536) % 4294967296 = X at *
    clear hb c1 c2 c3 c4 c5 hbig
    have OB := Lib.hid (other_bool hs hd0 hs hX TI.out TW.out ln HLE.out)
    have PX := Lib.hid (tcpParse_any s X hs hX A1 ln c1' bs HLE.out C1.1 C1.2 w3 R3)
    have PI1 := Lib.hid (in_wf8 (psOf_in hs hd0 (ln : Int)))
    have PI2 := Lib.hid (in_wf8 (psOf_in hs hX (ln : Int)))
    go_wp2_with fail
    refine PX.out.mono ?_
    intro e w4 hp
    obtain ⟨x1, x2, x3, x4, xa, xn, xc, xp, rfl, _, _, _, k4⟩ := tparse_as TI.out hp
    have k5 := k4.alloc k4.size (.cells #[.int .u16 x1, .int .u16 x2, .int .u8 x3, .int .i64 x4, .slice xa xn xc] 26)
    have L5 := L3.trans (k5.mono L3.size)
    clear hp k4 k5 L3 R3 PX
    go_upto_region 18 with (fail)
    generalize w4.alloc (.cells #[.int .u16 x1, .int .u16 x2, .int .u8 x3, .int .i64 x4, .slice xa xn xc] 26) = w5 at *
    generalize twhy s X bs = yy at *
    go_wp2_with fail
    refine (pseudo_any s d ln hs hd0 w5).mono ?_
    rintro e w6 ⟨rfl, rfl⟩
    have L6 := L5.trans ((psW_below s d ln w5).mono L5.size)
    have R6 : Row .u8 (psW s d ln w5).heap.size (psW s d ln w5) (some ⟨w5.heap.size, 0, none⟩) (psOf s d ln) := by
      rw [psW_size]
      exact Row.built .u8 w5 50 (psOf s d ln) PI1.out
    generalize psW s d ln w5 = w6 at *
    go_wp2_with fail
    refine (pseudo_any s X ln hs hX w6).mono ?_
    rintro e w7 ⟨rfl, rfl⟩
    have L7 := L6.trans ((psW_below s X ln w6).mono L6.size)
    have R6' := R6.step (psW_below s X ln w6)
    have R7 : Row .u8 (psW s X ln w6).heap.size (psW s X ln w6) (some ⟨w6.heap.size, 0, none⟩) (psOf s X ln) := by
      rw [psW_size]
      exact Row.built .u8 w6 50 (psOf s X ln) PI2.out
    generalize psW s X ln w6 = w7 at *
    clear R6 L5 L6
    go_wp2_with fail
    refine (rsum_any _ 12 12 (psOf s d ln) rfl (by omega) w7 R6').mono ?_
    rintro e w8 ⟨rfl, k8⟩
    have R8 := R7.step k8
    have L8 := L7.trans (k8.mono L7.size)
    go_wp2_with fail
    refine (rsum_any _ 12 12 (psOf s X ln) rfl (by omega) w8 R8).mono ?_
    rintro e w9 ⟨rfl, k9⟩
    have L9 := L8.trans (k9.mono L8.size)
    have ob := OB.out
    clear R8 L8 L7 R7 R6' k8 k9
    go_wp2_with (go_at_call 7; refine (twakes_any w9).mono ?_; rintro e w10 ⟨rfl, k10⟩)
    go_ret
    exact ⟨rfl, L9.trans (k10.mono L9.size)⟩
end Go.Proofs.Ytclofmgnnohhpaa
