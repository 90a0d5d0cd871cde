/- 'handfastlaw03.TcpBack' returns true at every two addresses, every head and every number, and leaves what lay as it lay. -/
import Derived.Test.YtclofmgnnohhpaaTcpX
import Derived.Test.YtclofmgnnohhpaaGen2
namespace Go.Proofs.Ytclofmgnnohhpaa
open Go.RowKit
open SumM

theorem tz_same' (w : World) : Calls Try.prog 12 #[.agg #[.int .u16 0, .int .u16 0, .int .u8 0, .int .i64 0, .slice none 0 0], .agg #[.int .u16 0, .int .u16 0, .int .u8 0, .int .i64 0, .slice none 0 0]] w fun e w' => e = .returned (.bool true) ∧ Below w.heap.size w w' :=
  (refTcpSame_any 0 0 0 0 none 0 0 0 0 0 0 none 0 0 [] [] w.heap.size w.heap.size w (Nat.le_refl _) (Nat.le_refl _) (Row.nil _ _ _ _) rfl (Row.nil _ _ _ _) rfl).mono fun e w' h => ⟨h.1.trans (ret_bool (by decide)), h.2⟩

set_option maxRecDepth 100000 in
set_option maxHeartbeats 8000000 in
theorem tcpBack_walk (s d : Int) (sp dp tf hd : Int) (da : Option Addr) (dn dc : Nat) (ps : List Int) (bit : Int) (w : World) (w0 : (Lit.int .u32 s).wf = true) (w1 : (Lit.int .u32 d).wf = true) (h : IsTcp w sp dp tf hd da dn dc ps) (w3 : (Lit.int .i64 bit).wf = true) :
    Calls Try.prog 4 #[.int .u32 s, .int .u32 d, .agg #[.int .u16 sp, .int .u16 dp, .int .u8 tf, .int .i64 hd, .slice da dn dc], .int .i64 bit] w fun e w' => e = .returned (.bool true) ∧ Below w.heap.size w w' := by
  have hs := wf_u32.1 w0
  have hd0 := wf_u32.1 w1
  have hbt := wf_i64.1 w3
  obtain ⟨hN, hhd, hrp, hpl, hpn, hpc⟩ := h
  clear w0 w1 w3
  unfold maxLen at hpc
  have HN := Lib.hid hN
  have HP := Lib.hid hpl
  have NP := Lib.hid hpn
  have RP := Lib.hid (fun W (m : Below w.heap.size w W) => (hrp.below m).more m.size)
  have PI := Lib.hid (row_in hrp)
  have hH0 := heap_alloc_new w (.cells #[.int .u16 sp, .int .u16 dp, .int .u8 tf, .int .i64 hd, .slice da dn dc] 26)
  have L0 := (Below.refl w.heap.size w).alloc (Nat.le_refl _) (.cells #[.int .u16 sp, .int .u16 dp, .int .u8 tf, .int .i64 hd, .slice da dn dc] 26)
  clear hN hrp hpn
  by_cases hbig : 3000 < dn
  · have p1 : decide ((3000 : Int) < (dn : Int)) = true := decide_eq_true (by omega)
    obtain ⟨q00, q01, q02, q03, q04⟩ := tcp_cells _ _ _ _ _ _ _ hH0
    clear hpl
    go_enter Try.func4, Try.ntmps4
    go_wp2_with (go_at_call 7; refine (twakes_any _).mono ?_; rintro e w3 ⟨rfl, m3⟩)
    go_ret
    exact ⟨rfl, L0.trans (m3.mono L0.size)⟩
  have p1 : decide ((3000 : Int) < (dn : Int)) = false := decide_eq_false (by omega)
  have htm : 0 ≤ hd → hd.tmod 4 = hd % 4 := fun h => Int.tmod_eq_emod_of_nonneg h
  by_cases hmay : mayB hd dn = true
  rotate_left
  · have hm := Lib.hid (show mayB hd dn = false by simpa using hmay)
    have hm2 : ¬ (20 ≤ hd ∧ hd ≤ 60 ∧ hd % 4 = 0 ∧ hd + dn ≤ 65535) := of_decide_eq_false hm.out
    have hcase : (decide (20 ≤ hd) = false) ∨ (decide (20 ≤ hd) = true ∧ decide (hd ≤ 60) = false) ∨ (decide (20 ≤ hd) = true ∧ decide (hd ≤ 60) = true ∧ hd.tmod 4 = hd % 4 ∧ (hd % 4 == 0) = false) := by
      by_cases c1 : 20 ≤ hd
      · by_cases c2 : hd ≤ 60
        · exact .inr (.inr ⟨decide_eq_true c1, decide_eq_true c2, htm (by omega), by simp; omega⟩)
        · exact .inr (.inl ⟨decide_eq_true c1, decide_eq_false c2⟩)
      · exact .inl (decide_eq_false c1)
    clear hm2 hmay htm hpl
    obtain ⟨q00, q01, q02, q03, q04⟩ := tcp_cells _ _ _ _ _ _ _ hH0
    rcases hcase with c1 | ⟨c1, c2⟩ | ⟨c1, c2, c3, c4⟩
    all_goals
      go_enter Try.func4, Try.ntmps4
      go_upto_region 3 with (fail)
      generalize w.alloc (.cells #[.int .u16 sp, .int .u16 dp, .int .u8 tf, .int .i64 hd, .slice da dn dc] 26) = W0 at *
      go_wp2_with (first
        | (go_at_call 10; refine (tcpPut_no s d sp dp tf hd da dn dc hhd (by omega) hm.out W0).mono ?_; rintro e w1 ⟨rfl, m1⟩; have L1 := L0.trans (m1.mono L0.size); obtain ⟨z0, z1, z2, z3, z4⟩ := tcp_cells _ _ _ _ _ _ _ ((m1.block _ (Array.getElem?_eq_some_iff.1 hH0).1).trans hH0))
        | (go_at_call 7; refine (twakes_any w1).mono ?_; rintro e w3 ⟨rfl, m3⟩))
      go_ret
      exact ⟨rfl, L1.trans (m3.mono L1.size)⟩
  obtain ⟨m1, m2, m3, m4⟩ := mayB_le hmay
  have c1 : decide (20 ≤ hd) = true := decide_eq_true m1
  have c2 : decide (hd ≤ 60) = true := decide_eq_true m2
  have c3 : hd.tmod 4 = hd % 4 := htm (by omega)
  have c4 : (hd % 4 == 0) = true := by simp [m3]
  have HM := Lib.hid hmay
  have hlen : (tput s d sp dp tf hd ps).length = hd.toNat + dn := by rw [tput_length, hpl]
  have HLE := Lib.hid hlen
  have TI := Lib.hid (tput_in (s := s) (d := d) HN.out ⟨m1, m2⟩ PI.out)
  have TR := Lib.hid (tput_right hs hd0 HN.out ⟨m1, m2⟩ PI.out)
  clear htm hmay hlen
  obtain ⟨q00, q01, q02, q03, q04⟩ := tcp_cells _ _ _ _ _ _ _ hH0
  go_enter Try.func4, Try.ntmps4
  go_upto_region 3 with (fail)
  generalize w.alloc (.cells #[.int .u16 sp, .int .u16 dp, .int .u8 tf, .int .i64 hd, .slice da dn dc] 26) = W0 at *
  go_wp2_with fail
  refine (tcpPut_yes s d sp dp tf hd da dn dc ps hs hd0 HN.out HM.out W0 (RP.out _ L0) HP.out NP.out).mono ?_
  rintro e w1 ⟨A1, c1', rfl, O1, k1⟩
  have L1 := L0.trans (k1.mono L0.size)
  have B1 := (k1.block _ (Array.getElem?_eq_some_iff.1 hH0).1).trans hH0
  obtain ⟨bs, hbs⟩ : ∃ l, tput s d sp dp tf hd ps = l := ⟨_, rfl⟩
  have C1 := own_cap O1
  have PP := Lib.hid (tparse_put s d sp dp tf hd ps hs hd0 HN.out (by rw [HP.out]; exact HM.out) PI.out A1 (hd.toNat + dn) c1' (by rw [HP.out]) C1.1 C1.2 w1 (Row.of_own O1 (in_wf8 TI.out)))
  rw [hbs] at O1
  have TI := Lib.hid (show In 255 bs from hbs ▸ TI.out)
  have TR := Lib.hid (show tsum s d bs = 65535 from hbs ▸ TR.out)
  have HLE := Lib.hid (show bs.length = hd.toNat + dn from hbs ▸ HLE.out)
  clear q00 q01 q02 q03 q04 hH0 L0 k1 hbs hpl
  obtain ⟨q00, q01, q02, q03, q04⟩ := tcp_cells _ _ _ _ _ _ _ B1
  obtain ⟨ln, hln⟩ : ∃ k, hd.toNat + dn = k := ⟨_, rfl⟩
  have hlnz : (ln : Int) = hd + dn := by omega
  have hlnb : 20 ≤ ln ∧ ln ≤ 65535 := by omega
  rw [hln] at PP O1 C1 HLE ⊢
  have HLN := Lib.hid hln
  clear hln
  go_wp2_with fail
  refine PP.out.mono ?_
  rintro e w2 ⟨A2, c2, rfl, O2, k2⟩
  have b2 := k2.alloc k2.size (.cells #[.int .u16 sp, .int .u16 dp, .int .u8 tf, .int .i64 hd, .slice A2 ps.length c2] 26)
  have D3 := heap_alloc_new w2 (.cells #[.int .u16 sp, .int .u16 dp, .int .u8 tf, .int .i64 hd, .slice A2 ps.length c2] 26)
  have L3 := L1.trans (b2.mono L1.size)
  have B3 := (b2.block _ (Array.getElem?_eq_some_iff.1 B1).1).trans B1
  have O3 := own_below O1 b2
  have R3 := (Row.of_own O2 (in_wf8 PI.out)).allocS (.cells #[.int .u16 sp, .int .u16 dp, .int .u8 tf, .int .i64 hd, .slice A2 ps.length c2] 26)
  have hz3 : (w2.alloc (.cells #[.int .u16 sp, .int .u16 dp, .int .u8 tf, .int .i64 hd, .slice A2 ps.length c2] 26)).heap.size = w2.heap.size + 1 := by simp
  clear q00 q01 q02 q03 q04 O2 k2 b2 L1 B1 O1 PP
  go_upto_region 9 with (fail)
  generalize w2.alloc (.cells #[.int .u16 sp, .int .u16 dp, .int .u8 tf, .int .i64 hd, .slice A2 ps.length c2] 26) = w3 at *
  obtain ⟨q00, q01, q02, q03, q04⟩ := tcp_cells _ _ _ _ _ _ _ B3
  obtain ⟨z0, z1, z2, z3, z4⟩ := tcp_cells _ _ _ _ _ _ _ D3
  have hw : IntKind.i64.wrap (hd + dn) = hd + dn := IntWalk.i64_in _ (by omega)
  have hne : ((ln : Int) != hd + dn) = false := by simp [hlnz]
  have SX := Lib.hid (show tsameB sp dp tf hd ps sp dp tf hd ps = true by simp [tsameB])
  obtain ⟨pl, hpl'⟩ : ∃ k, ps.length = k := ⟨_, rfl⟩
  have HPL := Lib.hid hpl'
  rw [hpl'] at z4 D3
  go_upto_region 11 with (go_at_call 12; refine (refTcpSame_any sp dp tf hd A2 _ c2 sp dp tf hd da dn dc ps ps _ _ w3 (Nat.le_refl _) (Nat.le_refl _) R3 HPL.out (RP.out _ L3) HP.out).mono ?_; rintro e w4 ⟨he, k4⟩; rw [SX.out] at he; subst he; have L4 := L3.trans (k4.mono L3.size); have O4 := own_below O3 k4; obtain ⟨y0, y1, y2, y3, y4⟩ := tcp_cells _ _ _ _ _ _ _ ((k4.block _ (Array.getElem?_eq_some_iff.1 B3).1).trans B3))
  clear hne hw hlnz q00 q01 q02 q03 q04 z0 z1 z2 z3 z4 y0 y1 y2 y3 y4 L3 D3 B3 O3 R3 k4 c1 c3 c4
  obtain ⟨i0, hi, hz0, hz1, hz2⟩ := info_parts Try.infoU8
  obtain ⟨N, hNN⟩ : ∃ N : Nat, 8 * ln = N := ⟨_, rfl⟩
  obtain ⟨m', q, hq1, hq2, hq3, hq4, hq⟩ := at_mod bit N (by omega) (by omega)
  have hNi : 8 * (ln : Int) = (N : Int) := by omega
  have hqp : q / 8 < ln := by omega
  have hNb : N ≤ 524280 := by omega
  have hNp : 1 ≤ N := by omega
  clear hNN
  have hgb := (O4.lt)
  have R4 := Row.of_own O4 (in_wf8 TI.out)
  have N4 := own_nil O4
  clear hgb
  go_upto_region 14 with (at_builtin; refine wpList_append_row _ rfl (.tmp 89) (.tmp 90) 23 rfl w4.heap.size 5 i0 (.int .u8 0) 1 Try.underlying23 hi hz0 hz1 hz2 rfl _ 0 [] rfl (own_built w4 w4.heap.size (Nat.le_refl _) 5 [] 0 rfl (by unfold maxLen; omega)) .u8 _ A1 ln c1' bs rfl HLE.out (R4.allocS _) N4 (by unfold maxLen; omega) (by omega) (by simp) ?_; intro v5 w5 O5 g5; simp only [Nat.zero_add, List.nil_append] at O5; have M5 := ((Below.refl w4.heap.size w4).alloc (Nat.le_refl _) (.cells #[] 5)).grown g5 (by simp) (fun j hj => by cases hj; exact Nat.le_refl _); obtain ⟨g, cp, rfl, hg⟩ := own_form O5 (by omega))
  have hv1 := own_cell O5 (q / 8) (by omega)
  have hw1 := O5.frozenAt (q / 8)
  have hvb := getD_in TI.out (by decide) (q / 8)
  go_upto_region 15 with (fail)
  have hxb := xor_u8_bit (bs[q / 8]?.getD 0) hvb.1 hvb.2 (q % 8) (by omega)
  generalize bits .xor .u8 (bs[q / 8]?.getD 0) ((2 : Int) ^ (q % 8) % 256) = V at *
  have O6 := own_store O5 (q / 8) V
  have M6 := M5.setCell (p := ⟨g, q / 8, none⟩) hg (.int .u8 V)
  have L6 := L4.trans (M6.mono L4.size)
  have C6 := own_cap O6
  have hie := in_set TI.out (q / 8) V hxb.2
  have R6 := Row.of_own O6 (in_wf8 hie)
  have hln6 : (bs.set (q / 8) V).length = ln := by rw [List.length_set, HLE.out]
  have hy := twhy_bit TR.out (q / 8) (by rw [HLE.out]; omega) V (q % 8) (by omega) hxb.1
  have hyy := twhy_in s d (bs.set (q / 8) V)
  generalize w5.setCell ⟨g, q / 8, none⟩ (.int .u8 V) = w6 at *
  clear hv1 hw1 O5 M5 g5 R4 N4 O4 M6 hie hvb hxb hq1 hq2 hq3 hq4 hNi hNb hNp hqp O6 hq
  obtain ⟨y, hyd⟩ : ∃ y, twhy s d (bs.set (q / 8) V) = y := ⟨_, rfl⟩
  have PC := Lib.hid (tparse_no s d hs hd0 (bs.set (q / 8) V) (some ⟨g, 0, none⟩) ln cp hln6 C6.1 C6.2 w6 R6 y hyd (by rw [← hyd]; exact hy))
  rw [hyd] at hy hyy
  have hz : (y == 8) = true ∨ ((y == 8) = false ∧ (y == 9) = true) := by
    rcases hyy with h | h | h
    · exact absurd h hy
    · exact .inl (by simp [h])
    · exact .inr ⟨by simp [h], by simp [h]⟩
  clear hyy hy hyd hln6 R6 C6
  go_wp2_with fail
  refine PC.out.mono ?_
  rintro e w7 ⟨rfl, k7⟩
  have L7 := L6.trans (k7.mono L6.size)
  have B8 := heap_alloc_new w7 (.cells #[.int .u16 0, .int .u16 0, .int .u8 0, .int .i64 0, .slice none 0 0] 26)
  have L8 := L7.alloc L7.size (.cells #[.int .u16 0, .int .u16 0, .int .u8 0, .int .i64 0, .slice none 0 0] 26)
  clear L6 k7 PC
  go_upto_region 16 with (fail)
  generalize w7.alloc (.cells #[.int .u16 0, .int .u16 0, .int .u8 0, .int .i64 0, .slice none 0 0] 26) = w8 at *
  obtain ⟨z0, z1, z2, z3, z4⟩ := tcp_cells _ _ _ _ _ _ _ B8
  rcases hz with hz | ⟨hz, hz2⟩
  all_goals
    go_wp2_with (first
      | (go_at_call 12; refine (tz_same' w8).mono ?_; rintro e w9 ⟨rfl, k9⟩; have L9 := L8.trans (k9.mono L8.size))
      | (go_at_call 7; refine (twakes_any w9).mono ?_; rintro e w10 ⟨rfl, k10⟩))
    go_ret
    exact ⟨rfl, L9.trans (k10.mono L9.size)⟩
end Go.Proofs.Ytclofmgnnohhpaa
