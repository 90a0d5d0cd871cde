/- 'handfastlaw03.TcpReads' returns true at every two addresses and all bytes, and leaves what lay as it lay. -/
import Derived.Test.YtclofmgnnohhpaaTcpW
import Derived.Test.YtclofmgnnohhpaaTcpL
namespace Go.Proofs.Ytclofmgnnohhpaa
open Go.RowKit
open SumM

theorem tz_same (w : World) : Calls Try.prog 12 #[.agg #[.int .u16 0, .int .u16 0, .int .u8 0, .int .i64 0, .slice none 0 0], .agg #[.int .u16 0, .int .u16 0, .int .u8 0, .int .i64 0, .slice none 0 0]] w fun e w' => e = .returned (.bool true) ∧ Below w.heap.size w w' :=
  (refTcpSame_any 0 0 0 0 none 0 0 0 0 0 0 none 0 0 [] [] w.heap.size w.heap.size w (Nat.le_refl _) (Nat.le_refl _) (Row.nil _ _ _ _) rfl (Row.nil _ _ _ _) rfl).mono fun e w' h => ⟨h.1.trans (ret_bool (by decide)), h.2⟩

set_option maxRecDepth 100000 in
set_option maxHeartbeats 8000000 in
theorem tcpReads_walk (s d : Int) (a2 : Option Addr) (len2 cap2 : Nat) (z2 : List Int) (w : World) (w0 : (Lit.int .u32 s).wf = true) (w1 : (Lit.int .u32 d).wf = true) (w2 : IsRow .u8 w a2 len2 cap2 z2) :
    Calls Try.prog 5 #[.int .u32 s, .int .u32 d, .slice a2 len2 cap2] w fun e w' => e = .returned (.bool true) ∧ Below w.heap.size w w' := by
  have hs := wf_u32.1 w0
  have hd := wf_u32.1 w1
  obtain ⟨hr, hl, hn, hlc, hm⟩ := w2.row
  clear w0 w1 w2
  generalize z2.take len2 = bs at *
  unfold maxLen at hm
  have hin := row_in hr
  have HL := Lib.hid hl
  have HN := Lib.hid hn
  have RZ := Lib.hid (fun W (m : Below w.heap.size w W) => (hr.below m).more m.size)
  have PZ := Lib.hid (fun W (m : Below w.heap.size w W) => tcpParse_any s d hs hd a2 len2 cap2 bs hl hlc (by omega) W ((hr.below m).more m.size))
  by_cases hbig : 3000 < len2
  · have p0 : decide ((3000 : Int) < (len2 : Int)) = true := decide_eq_true (by omega)
    clear hr hl hn PZ RZ
    go_enter Try.func5, Try.ntmps5
    go_wp2_with (go_at_call 7; refine (twakes_any _).mono ?_; rintro e w1 ⟨rfl, m1⟩)
    go_ret
    exact ⟨rfl, m1⟩
  have p0 : decide ((3000 : Int) < (len2 : Int)) = false := decide_eq_false (by omega)
  obtain ⟨i0, hi, hz0, hz1, hz2⟩ := info_parts Try.infoU8
  have hPL := Lib.hid (show (psOf s d len2 ++ bs).length = 12 + len2 by rw [List.length_append, psOf_length, hl])
  have HPI := psOf_in hs hd (len2 : Int)
  have b12 := getD_in hin (by decide) 12
  have CZ := Lib.hid (fun W (m : Below w.heap.size w W) (h20 : 20 ≤ len2) => show ∃ b off, a2 = some ⟨b, off, none⟩ ∧ b < w.heap.size ∧ ∀ j, j < len2 → W.cell? ⟨b, off + j, none⟩ = some (.int .u8 (bs[j]?.getD 0)) from by
    obtain ⟨b, off, e, hb, hc⟩ := (hr.below m).2 (by omega)
    exact ⟨b, off, e, hb, fun j hj => hc j (by omega)⟩)
  have TS := Lib.hid (show tsum s d bs = sumOf (psOf s d len2 ++ bs) by unfold tsum; rw [hl])
  have hth : thl bs = bs[12]?.getD 0 / 16 * 4 := rfl
  by_cases hsh : len2 < 20 ∨ thl bs < 20 ∨ (len2 : Int) < thl bs
  · have HY := Lib.hid (twhy_short s d (bs := bs) (by rw [hl]; exact hsh))
    have hsh2 : len2 < 20 ∨ (20 ≤ len2 ∧ bs[12]?.getD 0 / 16 < 5) ∨ (20 ≤ len2 ∧ ¬ bs[12]?.getD 0 / 16 < 5 ∧ (len2 : Int) < 4 * (bs[12]?.getD 0 / 16)) := by omega
    clear hsh hth hr hl hn
    go_enter Try.func5, Try.ntmps5
    go_wp2_with fail
    refine (PZ.out _ (Below.refl _ _)).mono ?_
    rintro e w1 (⟨hy, rfl, m1⟩ | ⟨hy, _⟩)
    rotate_left
    · exact absurd hy (by rw [HY.out]; decide)
    rw [HY.out]
    have L2 := m1.alloc m1.size (.cells #[.int .u16 0, .int .u16 0, .int .u8 0, .int .i64 0, .slice none 0 0] 26)
    have B2 := heap_alloc_new w1 (.cells #[.int .u16 0, .int .u16 0, .int .u8 0, .int .i64 0, .slice none 0 0] 26)
    have hb2 : w1.heap.size < (w1.alloc (.cells #[.int .u16 0, .int .u16 0, .int .u8 0, .int .i64 0, .slice none 0 0] 26)).heap.size := by simp
    go_upto_region 4 with (fail)
    generalize w1.alloc (.cells #[.int .u16 0, .int .u16 0, .int .u8 0, .int .i64 0, .slice none 0 0] 26) = W2 at *
    rcases hsh2 with h20 | ⟨h20, h5⟩ | ⟨h20, h5, h6⟩
    · have p1 : decide ((len2 : Int) < 20) = true := decide_eq_true (by omega)
      go_wp2_with (first
        | (go_at_call 14; refine (pseudo_any s d len2 hs hd W2).mono ?_; rintro e w3 ⟨rfl, rfl⟩; have L3 := L2.trans ((psW_below s d len2 W2).mono L2.size))
        | (at_builtin; refine wpList_append_full _ rfl (.tmp 48) (.tmp 49) 23 rfl 5 i0 Try.underlying23 hi hz0 hz1 hz2 W2.heap.size 0 12 (psOf s d len2) rfl rfl (by rw [psW_size]; omega) (psW_cell s d len2 W2) HPI _ len2 cap2 bs rfl HL.out (RZ.out _ L3) HN.out (by omega) ?_; intro A4 c4 w4 r4 g4; have L4 := L3.grown g4 L3.size (fun k e => by cases e); have n4 := (psW_below s d len2 W2).grown g4 (psW_below s d len2 W2).size (fun k e => by cases e); have B4 := (g4.block _ (by have := (psW_below s d len2 W2).size; omega) (by simp)).trans (((psW_below s d len2 W2).block _ hb2).trans B2); clear g4)
        | (go_at_call 17; refine (rright_any A4 (12 + len2) c4 (psOf s d len2 ++ bs) hPL.out (by omega) w4 r4).mono ?_; rintro e w5 ⟨rfl, m5⟩; have L5 := L4.trans (m5.mono L4.size); have n5 := n4.trans (m5.mono n4.size); have B5 := (m5.block _ (Array.getElem?_eq_some_iff.1 B4).1).trans B4; obtain ⟨q0, q1, q2, q3, q4⟩ := tcp_cells _ _ _ _ _ _ _ B5)
        | (go_at_call 12; refine (tz_same w5).mono ?_; rintro e w6 ⟨rfl, m6⟩; have L6 := L5.trans (m6.mono L5.size))
        | (go_at_call 7; refine (twakes_any w6).mono ?_; rintro e w7 ⟨rfl, m7⟩))
      go_ret
      exact ⟨rfl, L6.trans (m7.mono L6.size)⟩
    · have p1 : decide ((len2 : Int) < 20) = false := decide_eq_false (by omega)
      have p2 : decide (bs[12]?.getD 0 / 16 < 5) = true := decide_eq_true h5
      obtain ⟨b, off, rfl, hb, hc⟩ := CZ.out _ L2 h20
      have x12 := hc 12 (by omega)
      clear hc
      go_wp2_with (first
        | (go_at_call 14; refine (pseudo_any s d len2 hs hd W2).mono ?_; rintro e w3 ⟨rfl, rfl⟩; have L3 := L2.trans ((psW_below s d len2 W2).mono L2.size))
        | (at_builtin; refine wpList_append_full _ rfl (.tmp 48) (.tmp 49) 23 rfl 5 i0 Try.underlying23 hi hz0 hz1 hz2 W2.heap.size 0 12 (psOf s d len2) rfl rfl (by rw [psW_size]; omega) (psW_cell s d len2 W2) HPI _ len2 cap2 bs rfl HL.out (RZ.out _ L3) HN.out (by omega) ?_; intro A4 c4 w4 r4 g4; have L4 := L3.grown g4 L3.size (fun k e => by cases e); have n4 := (psW_below s d len2 W2).grown g4 (psW_below s d len2 W2).size (fun k e => by cases e); have B4 := (g4.block _ (by have := (psW_below s d len2 W2).size; omega) (by simp)).trans (((psW_below s d len2 W2).block _ hb2).trans B2); clear g4)
        | (go_at_call 17; refine (rright_any A4 (12 + len2) c4 (psOf s d len2 ++ bs) hPL.out (by omega) w4 r4).mono ?_; rintro e w5 ⟨rfl, m5⟩; have L5 := L4.trans (m5.mono L4.size); have n5 := n4.trans (m5.mono n4.size); have B5 := (m5.block _ (Array.getElem?_eq_some_iff.1 B4).1).trans B4; obtain ⟨q0, q1, q2, q3, q4⟩ := tcp_cells _ _ _ _ _ _ _ B5)
        | (go_at_call 12; refine (tz_same w5).mono ?_; rintro e w6 ⟨rfl, m6⟩; have L6 := L5.trans (m6.mono L5.size))
        | (go_at_call 7; refine (twakes_any w6).mono ?_; rintro e w7 ⟨rfl, m7⟩))
      go_ret
      exact ⟨rfl, L6.trans (m7.mono L6.size)⟩
    · have p1 : decide ((len2 : Int) < 20) = false := decide_eq_false (by omega)
      have p2 : decide (bs[12]?.getD 0 / 16 < 5) = false := decide_eq_false (by omega)
      have p3 : decide ((len2 : Int) < 4 * (bs[12]?.getD 0 / 16)) = true := decide_eq_true h6
      obtain ⟨b, off, rfl, hb, hc⟩ := CZ.out _ L2 h20
      have x12 := hc 12 (by omega)
      clear hc
      go_wp2_with (first
        | (go_at_call 14; refine (pseudo_any s d len2 hs hd W2).mono ?_; rintro e w3 ⟨rfl, rfl⟩; have L3 := L2.trans ((psW_below s d len2 W2).mono L2.size))
        | (at_builtin; refine wpList_append_full _ rfl (.tmp 48) (.tmp 49) 23 rfl 5 i0 Try.underlying23 hi hz0 hz1 hz2 W2.heap.size 0 12 (psOf s d len2) rfl rfl (by rw [psW_size]; omega) (psW_cell s d len2 W2) HPI _ len2 cap2 bs rfl HL.out (RZ.out _ L3) HN.out (by omega) ?_; intro A4 c4 w4 r4 g4; have L4 := L3.grown g4 L3.size (fun k e => by cases e); have n4 := (psW_below s d len2 W2).grown g4 (psW_below s d len2 W2).size (fun k e => by cases e); have B4 := (g4.block _ (by have := (psW_below s d len2 W2).size; omega) (by simp)).trans (((psW_below s d len2 W2).block _ hb2).trans B2); clear g4)
        | (go_at_call 17; refine (rright_any A4 (12 + len2) c4 (psOf s d len2 ++ bs) hPL.out (by omega) w4 r4).mono ?_; rintro e w5 ⟨rfl, m5⟩; have L5 := L4.trans (m5.mono L4.size); have n5 := n4.trans (m5.mono n4.size); have B5 := (m5.block _ (Array.getElem?_eq_some_iff.1 B4).1).trans B4; obtain ⟨q0, q1, q2, q3, q4⟩ := tcp_cells _ _ _ _ _ _ _ B5)
        | (go_at_call 12; refine (tz_same w5).mono ?_; rintro e w6 ⟨rfl, m6⟩; have L6 := L5.trans (m6.mono L5.size))
        | (go_at_call 7; refine (twakes_any w6).mono ?_; rintro e w7 ⟨rfl, m7⟩))
      go_ret
      exact ⟨rfl, L6.trans (m7.mono L6.size)⟩
  have hlong := twhy_long s d (bs := bs) (by rw [hl]; exact hsh) (by omega)
  have h20 : 20 ≤ len2 := by omega
  obtain ⟨th, hthe⟩ : ∃ k, thl bs = k := ⟨_, rfl⟩
  have TH := Lib.hid hthe
  have hthb : 20 ≤ th ∧ th ≤ 60 ∧ th ≤ len2 := by omega
  have p1 : decide ((len2 : Int) < 20) = false := decide_eq_false (by omega)
  have p2 : decide (bs[12]?.getD 0 / 16 < 5) = false := decide_eq_false (by omega)
  have p3 : decide ((len2 : Int) < 4 * (bs[12]?.getD 0 / 16)) = false := decide_eq_false (by omega)
  have hT4 : Hid (4 * (bs[12]?.getD 0 / 16) = th) := Lib.hid (by omega)
  have hP9 := Lib.hid (show (bs.drop th.toNat).length = len2 - th.toNat by rw [List.length_drop, hl])
  clear hth hthe hr hl hn hsh
  by_cases e4 : tsum s d bs = 65535
  case neg =>
    have HY : Hid (twhy s d bs = 9) := Lib.hid (by rw [hlong, if_pos e4])
    have p5 : (sumOf (psOf s d len2 ++ bs) == 65535) = false := by rw [← TS.out]; simp [e4]
    clear hlong e4
    go_enter Try.func5, Try.ntmps5
    go_wp2_with fail
    refine (PZ.out _ (Below.refl _ _)).mono ?_
    rintro e w1 (⟨hy, rfl, m1⟩ | ⟨hy, _⟩)
    rotate_left
    · exact absurd hy (by rw [HY.out]; decide)
    rw [HY.out]
    have L2 := m1.alloc m1.size (.cells #[.int .u16 0, .int .u16 0, .int .u8 0, .int .i64 0, .slice none 0 0] 26)
    have B2 := heap_alloc_new w1 (.cells #[.int .u16 0, .int .u16 0, .int .u8 0, .int .i64 0, .slice none 0 0] 26)
    have hb2 : w1.heap.size < (w1.alloc (.cells #[.int .u16 0, .int .u16 0, .int .u8 0, .int .i64 0, .slice none 0 0] 26)).heap.size := by simp
    go_upto_region 4 with (fail)
    generalize w1.alloc (.cells #[.int .u16 0, .int .u16 0, .int .u8 0, .int .i64 0, .slice none 0 0] 26) = W2 at *
    obtain ⟨b, off, rfl, hb, hc⟩ := CZ.out _ L2 h20
    have x12 := hc 12 (by omega)
    clear hc
    go_wp2_with (first
        | (go_at_call 14; refine (pseudo_any s d len2 hs hd W2).mono ?_; rintro e w3 ⟨rfl, rfl⟩; have L3 := L2.trans ((psW_below s d len2 W2).mono L2.size))
        | (at_builtin; refine wpList_append_full _ rfl (.tmp 48) (.tmp 49) 23 rfl 5 i0 Try.underlying23 hi hz0 hz1 hz2 W2.heap.size 0 12 (psOf s d len2) rfl rfl (by rw [psW_size]; omega) (psW_cell s d len2 W2) HPI _ len2 cap2 bs rfl HL.out (RZ.out _ L3) HN.out (by omega) ?_; intro A4 c4 w4 r4 g4; have L4 := L3.grown g4 L3.size (fun k e => by cases e); have n4 := (psW_below s d len2 W2).grown g4 (psW_below s d len2 W2).size (fun k e => by cases e); have B4 := (g4.block _ (by have := (psW_below s d len2 W2).size; omega) (by simp)).trans (((psW_below s d len2 W2).block _ hb2).trans B2); clear g4)
        | (go_at_call 17; refine (rright_any A4 (12 + len2) c4 (psOf s d len2 ++ bs) hPL.out (by omega) w4 r4).mono ?_; rintro e w5 ⟨rfl, m5⟩; have L5 := L4.trans (m5.mono L4.size); have n5 := n4.trans (m5.mono n4.size); have B5 := (m5.block _ (Array.getElem?_eq_some_iff.1 B4).1).trans B4; obtain ⟨q0, q1, q2, q3, q4⟩ := tcp_cells _ _ _ _ _ _ _ B5)
        | (go_at_call 12; refine (tz_same w5).mono ?_; rintro e w6 ⟨rfl, m6⟩; have L6 := L5.trans (m6.mono L5.size))
        | (go_at_call 7; refine (twakes_any w6).mono ?_; rintro e w7 ⟨rfl, m7⟩))
    go_ret
    exact ⟨rfl, L6.trans (m7.mono L6.size)⟩
  case pos =>
    have HY : Hid (twhy s d bs = 0) := Lib.hid (by rw [hlong, if_neg (by simp [e4])])
    have p5 : (sumOf (psOf s d len2 ++ bs) == 65535) = true := by rw [← TS.out]; simp [e4]
    clear hlong e4
    have b0 := getD_in hin (by decide) 0
    have b1 := getD_in hin (by decide) 1
    have b2 := getD_in hin (by decide) 2
    have b3 := getD_in hin (by decide) 3
    have k0 : (wordAt bs 0 == 256 * bs[0]?.getD 0 + bs[1]?.getD 0) = true := by simp [wordAt]
    have k1 : (wordAt bs 1 == 256 * bs[2]?.getD 0 + bs[3]?.getD 0) = true := by simp [wordAt]
    have k2 : (th == 4 * (bs[12]?.getD 0 / 16)) = true := by rw [hT4.out]; simp
    have kw0 := wordAt_in hin 0
    have kw1 := wordAt_in hin 1
    obtain ⟨PS, hPS⟩ : ∃ l, bs.drop th.toNat = l := ⟨_, rfl⟩
    have hPSl : PS.length = len2 - th.toNat := by rw [← hPS, hP9.out]
    have HPSl := Lib.hid hPSl
    clear hPSl
    have HPS := Lib.hid hPS
    have hq : eqB PS PS = true := by simp [eqB]
    go_enter Try.func5, Try.ntmps5
    go_wp2_with fail
    refine (PZ.out _ (Below.refl _ _)).mono ?_
    rintro e w1 (⟨hy, _⟩ | ⟨hy, A1, c1, he, O1, m1⟩)
    · exact absurd HY.out hy
    rw [TH.out, hPS] at he O1
    subst he
    clear hPS
    have L2 := m1.alloc m1.size (.cells #[.int .u16 (wordAt bs 0), .int .u16 (wordAt bs 1), .int .u8 (bs[13]?.getD 0), .int .i64 th, .slice A1 PS.length c1] 26)
    have B2 := heap_alloc_new w1 (.cells #[.int .u16 (wordAt bs 0), .int .u16 (wordAt bs 1), .int .u8 (bs[13]?.getD 0), .int .i64 th, .slice A1 PS.length c1] 26)
    have hb2 : w1.heap.size < (w1.alloc (.cells #[.int .u16 (wordAt bs 0), .int .u16 (wordAt bs 1), .int .u8 (bs[13]?.getD 0), .int .i64 th, .slice A1 PS.length c1] 26)).heap.size := by simp
    have O2 := O1.alloc (.cells #[.int .u16 (wordAt bs 0), .int .u16 (wordAt bs 1), .int .u8 (bs[13]?.getD 0), .int .i64 th, .slice A1 PS.length c1] 26)
    go_upto_region 4 with (fail)
    generalize w1.alloc (.cells #[.int .u16 (wordAt bs 0), .int .u16 (wordAt bs 1), .int .u8 (bs[13]?.getD 0), .int .i64 th, .slice A1 PS.length c1] 26) = W2 at *
    obtain ⟨b, off, rfl, hb, hc⟩ := CZ.out _ L2 h20
    have x12 := hc 12 (by omega)
    clear hc
    go_upto_region 6 with (first
        | (go_at_call 14; refine (pseudo_any s d len2 hs hd W2).mono ?_; rintro e w3 ⟨rfl, rfl⟩; have L3 := L2.trans ((psW_below s d len2 W2).mono L2.size))
        | (at_builtin; refine wpList_append_full _ rfl (.tmp 48) (.tmp 49) 23 rfl 5 i0 Try.underlying23 hi hz0 hz1 hz2 W2.heap.size 0 12 (psOf s d len2) rfl rfl (by rw [psW_size]; omega) (psW_cell s d len2 W2) HPI _ len2 cap2 bs rfl HL.out (RZ.out _ L3) HN.out (by omega) ?_; intro A4 c4 w4 r4 g4; have L4 := L3.grown g4 L3.size (fun k e => by cases e); have n4 := (psW_below s d len2 W2).grown g4 (psW_below s d len2 W2).size (fun k e => by cases e); have B4 := (g4.block _ (by have := (psW_below s d len2 W2).size; omega) (by simp)).trans (((psW_below s d len2 W2).block _ hb2).trans B2); clear g4)
        | (go_at_call 17; refine (rright_any A4 (12 + len2) c4 (psOf s d len2 ++ bs) hPL.out (by omega) w4 r4).mono ?_; rintro e w5 ⟨rfl, m5⟩; have L5 := L4.trans (m5.mono L4.size); have n5 := n4.trans (m5.mono n4.size); have B5 := (m5.block _ (Array.getElem?_eq_some_iff.1 B4).1).trans B4; obtain ⟨q0, q1, q2, q3, q4⟩ := tcp_cells _ _ _ _ _ _ _ B5)
        | (go_at_call 12; refine (tz_same w5).mono ?_; rintro e w6 ⟨rfl, m6⟩; have L6 := L5.trans (m6.mono L5.size))
        | (go_at_call 7; refine (twakes_any w6).mono ?_; rintro e w7 ⟨rfl, m7⟩))
    clear x12
    obtain ⟨b', off', hA, _, hc⟩ := CZ.out _ L5 h20
    injection hA with hA
    injection hA with e1 e2
    subst e1 e2
    have x0 := hc 0 (by omega)
    rw [Nat.add_zero] at x0
    have x1 := hc 1 (by omega)
    have x2 := hc 2 (by omega)
    have x3 := hc 3 (by omega)
    have x12 := hc 12 (by omega)
    have x13 := hc 13 (by omega)
    clear hc
    have hl1 : (0 : Int) ≤ th := by omega
    have hl2 : th ≤ (cap2 : Int) := by omega
    have hl3 : th ≤ (len2 : Int) := by omega
    obtain ⟨AP, hAP⟩ : ∃ A, (if cap2 = th.toNat then some (⟨b, off, none⟩ : Addr) else some ⟨b, off + th.toNat, none⟩) = A := ⟨_, rfl⟩
    have RP := (RZ.out _ L5).dropIf th.toNat (c := cap2 = th.toNat) (fun h => List.eq_nil_of_length_eq_zero (by rw [hP9.out]; omega))
    rw [hAP, HPS.out] at RP
    have hw5 : w1.heap.size + 1 ≤ w5.heap.size := by have := (Array.getElem?_eq_some_iff.1 B5).1; omega
    have RD := Row.of_own (own_below O2 n5) (in_wf8 (HPS.out ▸ in_drop hin th.toNat))
    have ew : ∀ x : Int, 0 ≤ x ∧ x ≤ 65535 → IntKind.i64.wrap x = x := fun x h => IntWalk.i64_in _ (by omega)
    have k0' : (IntKind.i64.wrap (wordAt bs 0) == IntKind.i64.wrap (IntKind.i64.wrap (256 * IntKind.i64.wrap (bs[0]?.getD 0)) + IntKind.i64.wrap (bs[1]?.getD 0))) = true := by
      rw [ew _ kw0, ew (bs[0]?.getD 0) (by omega), ew (256 * bs[0]?.getD 0) (by omega), ew (bs[1]?.getD 0) (by omega), ew (256 * bs[0]?.getD 0 + bs[1]?.getD 0) (by omega)]
      exact k0
    have k1' : (IntKind.i64.wrap (wordAt bs 1) == IntKind.i64.wrap (IntKind.i64.wrap (256 * IntKind.i64.wrap (bs[2]?.getD 0)) + IntKind.i64.wrap (bs[3]?.getD 0))) = true := by
      rw [ew _ kw1, ew (bs[2]?.getD 0) (by omega), ew (256 * bs[2]?.getD 0) (by omega), ew (bs[3]?.getD 0) (by omega), ew (256 * bs[2]?.getD 0 + bs[3]?.getD 0) (by omega)]
      exact k1
    have k2' : (th == IntKind.i64.wrap (4 * IntKind.i64.wrap (bs[12]?.getD 0 / 16))) = true := by
      rw [ew (bs[12]?.getD 0 / 16) (by omega), ew (4 * (bs[12]?.getD 0 / 16)) (by omega)]
      exact k2
    have g0 : (0 : Int) < (len2 : Int) := by omega
    have g0' : 0 < len2 := by omega
    have g1 : (1 : Int) < (len2 : Int) := by omega
    have g2 : (2 : Int) < (len2 : Int) := by omega
    have g3 : (3 : Int) < (len2 : Int) := by omega
    have g12 : (12 : Int) < (len2 : Int) := by omega
    have g13 : (13 : Int) < (len2 : Int) := by omega
    have S0 : (fun w' : World => w'.cell? ⟨w1.heap.size, 0, none⟩ = some (.int .u16 (wordAt bs 0)) ∧ w'.cell? ⟨w1.heap.size, 1, none⟩ = some (.int .u16 (wordAt bs 1)) ∧ w'.cell? ⟨w1.heap.size, 2, none⟩ = some (.int .u8 (bs[13]?.getD 0)) ∧ w'.cell? ⟨w1.heap.size, 3, none⟩ = some (.int .i64 th) ∧ w'.cell? ⟨w1.heap.size, 4, none⟩ = some (.slice A1 PS.length c1) ∧ w'.cell? ⟨b, off, none⟩ = some (.int .u8 (bs[0]?.getD 0)) ∧ w'.cell? ⟨b, off + 1, none⟩ = some (.int .u8 (bs[1]?.getD 0)) ∧ w'.cell? ⟨b, off + 2, none⟩ = some (.int .u8 (bs[2]?.getD 0)) ∧ w'.cell? ⟨b, off + 3, none⟩ = some (.int .u8 (bs[3]?.getD 0)) ∧ w'.cell? ⟨b, off + 12, none⟩ = some (.int .u8 (bs[12]?.getD 0)) ∧ w'.cell? ⟨b, off + 13, none⟩ = some (.int .u8 (bs[13]?.getD 0))) w5 := ⟨q0, q1, q2, q3, q4, x0, x1, x2, x3, x12, x13⟩
    have S1 : ∀ W', Below w5.heap.size w5 W' → (fun w' : World => w'.cell? ⟨w1.heap.size, 0, none⟩ = some (.int .u16 (wordAt bs 0)) ∧ w'.cell? ⟨w1.heap.size, 1, none⟩ = some (.int .u16 (wordAt bs 1)) ∧ w'.cell? ⟨w1.heap.size, 2, none⟩ = some (.int .u8 (bs[13]?.getD 0)) ∧ w'.cell? ⟨w1.heap.size, 3, none⟩ = some (.int .i64 th) ∧ w'.cell? ⟨w1.heap.size, 4, none⟩ = some (.slice A1 PS.length c1) ∧ w'.cell? ⟨b, off, none⟩ = some (.int .u8 (bs[0]?.getD 0)) ∧ w'.cell? ⟨b, off + 1, none⟩ = some (.int .u8 (bs[1]?.getD 0)) ∧ w'.cell? ⟨b, off + 2, none⟩ = some (.int .u8 (bs[2]?.getD 0)) ∧ w'.cell? ⟨b, off + 3, none⟩ = some (.int .u8 (bs[3]?.getD 0)) ∧ w'.cell? ⟨b, off + 12, none⟩ = some (.int .u8 (bs[12]?.getD 0)) ∧ w'.cell? ⟨b, off + 13, none⟩ = some (.int .u8 (bs[13]?.getD 0))) W' := fun W' m => ⟨(m.cell (p := ⟨w1.heap.size, 0, none⟩) (by show w1.heap.size < _; omega)).trans q0, (m.cell (p := ⟨w1.heap.size, 1, none⟩) (by show w1.heap.size < _; omega)).trans q1, (m.cell (p := ⟨w1.heap.size, 2, none⟩) (by show w1.heap.size < _; omega)).trans q2, (m.cell (p := ⟨w1.heap.size, 3, none⟩) (by show w1.heap.size < _; omega)).trans q3, (m.cell (p := ⟨w1.heap.size, 4, none⟩) (by show w1.heap.size < _; omega)).trans q4, (m.cell (p := ⟨b, off, none⟩) (block_lt_of_cell x0)).trans x0, (m.cell (p := ⟨b, off + 1, none⟩) (block_lt_of_cell x1)).trans x1, (m.cell (p := ⟨b, off + 2, none⟩) (block_lt_of_cell x2)).trans x2, (m.cell (p := ⟨b, off + 3, none⟩) (block_lt_of_cell x3)).trans x3, (m.cell (p := ⟨b, off + 12, none⟩) (block_lt_of_cell x12)).trans x12, (m.cell (p := ⟨b, off + 13, none⟩) (block_lt_of_cell x13)).trans x13⟩
    have S0 := Lib.hid S0
    have S1 := Lib.hid S1
    have RD := Lib.hid (show Row .u8 w5.heap.size w5.drew A1 PS from RD)
    have RP := Lib.hid (show Row .u8 w5.heap.size w5.drew AP PS from RP)
    clear q0 q1 q2 q3 q4 x0 x1 x2 x3 x12 x13 k0 k1 k2 ew
    go_wp2
    try simp only [List.append]
    go_region_held3 (fun w' => w'.cell? ⟨w1.heap.size, 0, none⟩ = some (.int .u16 (wordAt bs 0)) ∧ w'.cell? ⟨w1.heap.size, 1, none⟩ = some (.int .u16 (wordAt bs 1)) ∧ w'.cell? ⟨w1.heap.size, 2, none⟩ = some (.int .u8 (bs[13]?.getD 0)) ∧ w'.cell? ⟨w1.heap.size, 3, none⟩ = some (.int .i64 th) ∧ w'.cell? ⟨w1.heap.size, 4, none⟩ = some (.slice A1 PS.length c1) ∧ w'.cell? ⟨b, off, none⟩ = some (.int .u8 (bs[0]?.getD 0)) ∧ w'.cell? ⟨b, off + 1, none⟩ = some (.int .u8 (bs[1]?.getD 0)) ∧ w'.cell? ⟨b, off + 2, none⟩ = some (.int .u8 (bs[2]?.getD 0)) ∧ w'.cell? ⟨b, off + 3, none⟩ = some (.int .u8 (bs[3]?.getD 0)) ∧ w'.cell? ⟨b, off + 12, none⟩ = some (.int .u8 (bs[12]?.getD 0)) ∧ w'.cell? ⟨b, off + 13, none⟩ = some (.int .u8 (bs[13]?.getD 0))) (first | with_reducible exact S1.out _ m7d | with_reducible exact S0.out | exact S0.out)
      (first
        | (go_at_call 13; refine (lawSame_any A1 PS.length c1 PS AP (len2 - th.toNat) (cap2 - th.toNat) PS w5.heap.size w5.heap.size w5.drew RD.out rfl RP.out HPSl.out).mono ?_; rintro e w6 ⟨he, rfl⟩; rw [hq] at he; subst he)
        | (go_at_call 7; refine (twakes_any w5.drew).mono ?_; rintro e w7 ⟨rfl, m7⟩; have m7d : Below w5.heap.size w5 w7 := below_drew m7))
    go_wp2
    go_ret
    exact ⟨rfl, L5.trans (m7d.mono L5.size)⟩
end Go.Proofs.Ytclofmgnnohhpaa
