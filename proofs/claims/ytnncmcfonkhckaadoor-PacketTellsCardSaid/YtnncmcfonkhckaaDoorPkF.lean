/- Package packet: what Make answers. -/
import Derived.Test.YtnncmcfonkhckaaDoorPkD
namespace Go.Proofs.YtnncmcfonkhckaaDoor
open Go.RowKit Go.Shelf
open SumM

set_option maxRecDepth 100000 in
set_option maxHeartbeats 4000000 in
theorem pkMake_any (ts td tp tq : Int) (kf : Int) (da : Option Addr) (dn dc : Nat) (ps : List Int) (H : UNums ts td tp tq) (hk : 0 ≤ kf ∧ kf ≤ 255) (hdn : dn ≤ 281474976710600) (w : World) (hg : 0 < w.heap.size) (hW : Wid w) (hrp : Row .u8 w.heap.size w da ps) (hpl : ps.length = dn) (hpn : da = none → dc = 0) :
    Calls Tryd.prog 10 #[.agg #[.int .u32 ts, .int .u32 td, .int .u16 tp, .int .u16 tq], .int .u8 kf, .slice da dn dc] w (PkMakeRet ts td tp tq kf ps w) := by
  have hd0 := heap_alloc_new w (.cells #[.int .u32 ts, .int .u32 td, .int .u16 tp, .int .u16 tq] 26)
  have L0 : Below w.heap.size w (w.alloc (.cells #[.int .u32 ts, .int .u32 td, .int .u16 tp, .int .u16 tq] 26)) := (Below.refl _ w).alloc (Nat.le_refl _) _
  have HT : TNums tp tq kf := ⟨H.h3, H.h4, hk⟩
  have HI := Lib.hid (row_in hrp)
  have HH := Lib.hid H
  have HTT := Lib.hid HT
  have HPL := Lib.hid hpl
  have HGW := Lib.hid (fun W (m : Below w.heap.size w W) => show 0 < W.heap.size ∧ Wid W from ⟨Nat.lt_of_lt_of_le hg m.size, fun i hi => (m.cell (p := ⟨0, i, none⟩) hg).trans (hW i hi)⟩)
  have HR := Lib.hid hrp
  have HPN := Lib.hid hpn
  have HDN := Lib.hid hdn
  have hlt : w.heap.size < (w.alloc (.cells #[.int .u32 ts, .int .u32 td, .int .u16 tp, .int .u16 tq] 26)).heap.size := by simp
  clear hrp hpl hpn hg hW H hk hdn HT
  go_enter Tryd.func10, Tryd.ntmps10
  go_wp2_with (fail)
  refine wp_scope_jumps 0 (fun a' w' => Below w.heap.size w w' ∧ ¬ 40 + ps.length ≤ 65535 ∧ ∃ (u0 u1 u2 u3 u4 u5 u6 u7 u8 u9 u10 u11 u12 u13 u14 u15 u16 u17 u18 u19 u20 u21 u22 u23 u24 u25 u26 u27 u28 u29 u30 u31 u32 u33 u34 u35 u36 u37 : Value), a' = { tmps := #[u0, u1, u2, u3, u4, u5, u6, u7, u8, u9, u10, u11, u12, u13, u14, u15, u16, u17, u18, u19, u20, u21, u22, u23, u24, u25, u26, u27, u28, u29, u30, u31, u32, u33, u34, u35, u36, u37], defers := [] }) (fun _ _ => 0) rfl ?first ?pass
  case pass =>
    rintro a' w' ⟨LL, hno, u0, u1, u2, u3, u4, u5, u6, u7, u8, u9, u10, u11, u12, u13, u14, u15, u16, u17, u18, u19, u20, u21, u22, u23, u24, u25, u26, u27, u28, u29, u30, u31, u32, u33, u34, u35, u36, u37, rfl⟩
    have HL := Lib.hid LL
    have HN := Lib.hid hno
    clear LL hno hd0 L0 hlt
    go_wp2
    simp only [Exit.jump]
    go_ret2
    exact mk_no HN.out HL.out
  case first =>
    go_upto_region 1 with (fail)
    generalize w.alloc (.cells #[.int .u32 ts, .int .u32 td, .int .u16 tp, .int .u16 tq] 26) = W0 at *
    obtain ⟨q0, q1, q2, q3⟩ := tup_cells _ _ _ _ hd0
    go_upto_region 2 with (fail)
    have hd1 := (Below.heap_alloc W0 (.cells #[.int .u16 tp, .int .u16 tq, .int .u8 kf, .int .i64 20, .slice da dn dc] 46) w.heap.size hlt).trans hd0
    have bT := heap_alloc_new W0 (.cells #[.int .u16 tp, .int .u16 tq, .int .u8 kf, .int .i64 20, .slice da dn dc] 46)
    have L1 := L0.alloc L0.size (.cells #[.int .u16 tp, .int .u16 tq, .int .u8 kf, .int .i64 20, .slice da dn dc] 46)
    clear q0 q1 q2 q3 hd0 L0
    generalize W0.alloc (.cells #[.int .u16 tp, .int .u16 tq, .int .u8 kf, .int .i64 20, .slice da dn dc] 46) = W1 at *
    generalize W0.heap.size = bt at *
    obtain ⟨q0, q1, q2, q3⟩ := tup_cells _ _ _ _ hd1
    obtain ⟨y0, y1, y2, y3, y4⟩ := tcp_cells _ _ _ _ _ _ _ bT
    have K := Lib.hid (tcpPut_as ts td tp tq kf 20 da dn dc ps HH.out.h1 HH.out.h2 HTT.out (by omega) (by have := HDN.out; omega) W1 ((HR.out.below L1).more L1.size) HPL.out HPN.out)
    have HD := Lib.hid hd1
    have HL1 := Lib.hid L1
    clear hd1 L1 bT hlt
    go_wp2_with (fail)
    refine K.out.mono ?_
    rintro e w1 ⟨A1, n1, c1, rfl, hz1, R1, hn1, hc1, hcm1, m1⟩
    have hd2 := (m1.block _ (Array.getElem?_eq_some_iff.1 HD.out).1).trans HD.out
    have HL2 := Lib.hid (HL1.out.trans (m1.mono HL1.out.size))
    clear q0 q1 q2 q3 y0 y1 y2 y3 y4 K m1
    obtain ⟨q0, q1, q2, q3⟩ := tup_cells _ _ _ _ hd2
    clear hd2
    by_cases h1 : mayB 20 dn = true
    · have hm := mayB_le h1
      have e1 : tputB ts td tp tq kf 20 dn ps = tput ts td tp tq kf 20 ps := by unfold tputB; rw [if_pos h1]
      rw [e1] at hz1 R1
      rw [h1]
      have hn : n1 = 20 + dn := by rw [← hz1, tput_length, HPL.out]; rfl
      have HN := Lib.hid hn
      have HZ1 := Lib.hid hz1
      have HR1 := Lib.hid R1
      have HN1 := Lib.hid hn1
      clear hz1 R1 hn1 h1 e1 hm
      by_cases h2 : 40 + dn ≤ 65535
      · have hrt : rightB 0 0 n1 = true := decide_eq_true ⟨.inl rfl, by omega, rfl, by omega⟩
        have K := Lib.hid (put_n 0 0 0 64 6 ts td none 0 0 A1 n1 c1 [] (tput ts td tp tq kf 20 ps) (mk_nums HH.out.h1 HH.out.h2) hrt w1 (HGW.out _ HL2.out).1 (HGW.out _ HL2.out).2 (Row.nil _ _ _ _) rfl (fun _ => rfl) HR1.out HZ1.out HN1.out)
        have HF := Lib.hid (mk_facts HH.out.h1 HH.out.h2 HTT.out HI.out (by rw [HPL.out]; omega))
        clear hrt hn
        go_wp2_with (fail)
        refine K.out.mono ?_
        rintro e w2 ⟨A2, c2, rfl, o2, m2⟩
        go_wp2
        go_ret2
        have EB : putOf 0 0 0 64 6 ts td 0 n1 [] (tput ts td tp tq kf 20 ps) = mkB ts td tp tq kf ps := by
          unfold mkB
          rw [HN.out, HPL.out]
        rw [EB] at o2
        exact mk_yes (by rw [HPL.out]; exact h2) (by rw [HN.out, HPL.out]; omega) HF.out.2.2.2.2.2.2.2.2 HL2.out.size o2 (HL2.out.trans (m2.mono HL2.out.size))
      · have hrt : rightB 0 0 n1 = false := decide_eq_false (by omega)
        have K := Lib.hid (ipPut_no 0 0 0 64 6 ts td none 0 0 A1 n1 c1 hrt (by omega) (by have := HDN.out; omega) w1)
        clear hrt hn
        go_wp2_with (fail)
        refine K.out.mono ?_
        rintro e w2 ⟨rfl, m2⟩
        go_wp2
        go_ret2
        exact mk_no (by rw [HPL.out]; exact h2) (HL2.out.trans (m2.mono HL2.out.size))
    · have h1' : mayB 20 dn = false := by simpa using h1
      rw [h1']
      have h2 : Hid (¬ 40 + dn ≤ 65535) := Lib.hid fun h => h1 (mayB_yes ⟨by omega, by omega, by omega, by omega⟩)
      clear h1 h1' hz1 R1 hn1
      go_wp2
      go_step3
      exact ⟨rfl, HL2.out, by rw [HPL.out]; exact h2.out, _, _, _, _, _, _, _, _, _, _, _, _, _, _, _, _, _, _, _, _, _, _, _, _, _, _, _, _, _, _, _, _, _, _, _, _, _, _, rfl⟩
end Go.Proofs.YtnncmcfonkhckaaDoor
