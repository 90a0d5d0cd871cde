/- Package encap: headOf: the head of what is wrapped, if it may be. -/
import Derived.Test.YthenbpnlmpeafaaDoorEnK
import Derived.Test.YthenbpnlmpeafaaDoorEnM
import Derived.Test.YthenbpnlmpeafaaDoorOpQ
namespace Go.Proofs.YthenbpnlmpeafaaDoor
open Go.RowKit Go.Shelf
open SumM

def EnHeadRet (fk fi xk xi kd bu cu pv ge ti : Int) (wa : Option Addr) (wn wc : Nat) (w : World) (e : Ending) (w' : World) : Prop :=
  (enOk fk fi xk xi kd bu cu pv ge ti = false ∧ e = .returned (.tuple #[.agg #[.int .u8 0, .int .u16 0, .int .u16 0, .int .u8 0, .int .u8 0, .int .u32 0, .int .u32 0, .slice none 0 0, .slice none 0 0], .bool false]) ∧ Below w.heap.size w w') ∨
  (enOk fk fi xk xi kd bu cu pv ge ti = true ∧ ∃ A c, e = .returned (.tuple #[.agg #[.int .u8 0, .int .u16 0, .int .u16 0, .int .u8 64, .int .u8 4, .int .u32 (adr (fk, fi)), .int .u32 (adr (xk, xi)), .slice A 16 c, .slice wa wn wc], .bool true]) ∧ 16 ≤ c ∧ c ≤ 9223372036854775807 ∧ Row .u8 w'.heap.size w' A (optB kd bu cu pv ge ti) ∧ Below w.heap.size w w')

/-- A row of bytes that is longer than a block does not lie in it. -/
theorem row_apart {w : World} {g : Nat} {cs : Array Value} {t : TypeId} (h : w.heap[g]? = some (.cells cs t (0, 0))) {B : Nat} {a : Option Addr} {zs : List Int} (hr : Row .u8 B w a zs) (hl : cs.size < zs.length) (vs : List Value) : Row .u8 (w.setCells g 0 vs).heap.size (w.setCells g 0 vs) a zs := by
  refine ⟨hr.1, fun h0 => ?_⟩
  obtain ⟨b, off, e, hb, hc⟩ := hr.2 h0
  have hne : b ≠ g := by
    intro e2
    subst e2
    have h1 := hc cs.size hl
    rw [cell_of_row _ _ _ _ _ _ h, Array.getElem?_eq_none (by omega)] at h1
    cases h1
  have hlt : b < w.heap.size := World.block_lt_of_cell? w _ (hc 0 h0)
  exact ⟨b, off, e, Nat.lt_of_lt_of_le hlt (others_setCells g vs 0 w).size, fun j hj => cell_sc hne (hc j hj)⟩

set_option maxRecDepth 100000 in
set_option maxHeartbeats 8000000 in
theorem eHead_any (fk fi xk xi kd bu cu pv ge ti : Int) (wa : Option Addr) (wn wc : Nat) (H : ONums kd bu cu pv ge ti) (w : World) : Calls Tryd.prog 30 #[.agg #[.int .u8 fk, .int .i64 fi, .int .u8 xk, .int .i64 xi, .int .u8 kd, .int .u8 bu, .int .i64 cu, .int .i64 pv, .int .i64 ge, .int .i64 ti, .slice wa wn wc]] w (EnHeadRet fk fi xk xi kd bu cu pv ge ti wa wn wc w) := by
  have bW := blk_al (heap_alloc_new w (.cells #[.int .u8 fk, .int .i64 fi, .int .u8 xk, .int .i64 xi, .int .u8 kd, .int .u8 bu, .int .i64 cu, .int .i64 pv, .int .i64 ge, .int .i64 ti, .slice wa wn wc] 29)) (.cells #[.int .u8 0, .int .u16 0, .int .u16 0, .int .u8 0, .int .u8 0, .int .u32 0, .int .u32 0, .slice none 0 0, .slice none 0 0] 51)
  have bH := heap_alloc_new_at (w := w.alloc (.cells #[.int .u8 fk, .int .i64 fi, .int .u8 xk, .int .i64 xi, .int .u8 kd, .int .u8 bu, .int .i64 cu, .int .i64 pv, .int .i64 ge, .int .i64 ti, .slice wa wn wc] 29)) (m := w.heap.size + 1) (by simp) (.cells #[.int .u8 0, .int .u16 0, .int .u16 0, .int .u8 0, .int .u8 0, .int .u32 0, .int .u32 0, .slice none 0 0, .slice none 0 0] 51)
  have L0 := ((Below.refl w.heap.size w).alloc (Nat.le_refl _) (.cells #[.int .u8 fk, .int .i64 fi, .int .u8 xk, .int .i64 xi, .int .u8 kd, .int .u8 bu, .int .i64 cu, .int .i64 pv, .int .i64 ge, .int .i64 ti, .slice wa wn wc] 29)).alloc (by simp) (.cells #[.int .u8 0, .int .u16 0, .int .u16 0, .int .u8 0, .int .u8 0, .int .u32 0, .int .u32 0, .slice none 0 0, .slice none 0 0] 51)
  have HH := Lib.hid H
  clear H
  go_enter Tryd.func30, Tryd.ntmps30
  go_wp2_with (fail)
  refine wp_scope_jumps 0 (fun a' w' => Below w.heap.size w w' ∧ enOk fk fi xk xi kd bu cu pv ge ti = false ∧ w'.heap[w.heap.size + 1]? = some (.cells #[.int .u8 0, .int .u16 0, .int .u16 0, .int .u8 0, .int .u8 0, .int .u32 0, .int .u32 0, .slice none 0 0, .slice none 0 0] 51 (0, 0)) ∧ ∃ (u0 u1 u3 u4 u5 u6 u7 u8 u9 u10 u11 u12 u13 u14 u15 u16 u17 u18 u19 u20 u21 u22 u23 u24 u25 u26 u27 u28 u29 u30 u31 u32 u33 u34 u35 u36 u37 u38 u39 u40 u41 u42 : Value), a' = { tmps := #[u0, u1, .pointer (some ⟨w.heap.size + 1, 0, none⟩), u3, u4, u5, u6, u7, u8, u9, u10, u11, u12, u13, u14, u15, u16, u17, u18, u19, u20, u21, u22, u23, u24, u25, u26, u27, u28, u29, u30, u31, u32, u33, u34, u35, u36, u37, u38, u39, u40, u41, u42], defers := [] }) (fun _ _ => 0) rfl ?first ?pass
  case pass =>
    rintro a' w' ⟨LL, hno, hd, u0, u1, u3, u4, u5, u6, u7, u8, u9, u10, u11, u12, u13, u14, u15, u16, u17, u18, u19, u20, u21, u22, u23, u24, u25, u26, u27, u28, u29, u30, u31, u32, u33, u34, u35, u36, u37, u38, u39, u40, u41, u42, rfl⟩
    obtain ⟨⟨q0, q1, q2, q3, q4, q5, q6, q7, q8⟩, qf⟩ := nine_cells hd
    have f0 := qf 0
    have f1 := qf 1
    have f2 := qf 2
    have f3 := qf 3
    have f4 := qf 4
    have f5 := qf 5
    have f6 := qf 6
    have f7 := qf 7
    have f8 := qf 8
    have C5 := Lib.hid (full_setCells hd [.int .u8 0, .int .u16 0, .int .u16 0, .int .u8 0, .int .u8 0, .int .u32 0, .int .u32 0, .slice none 0 0, .slice none 0 0] rfl)
    have L5 := Lib.hid (below_setCells (w.heap.size + 1) (by omega) [.int .u8 0, .int .u16 0, .int .u16 0, .int .u8 0, .int .u8 0, .int .u32 0, .int .u32 0, .slice none 0 0, .slice none 0 0] 0 w _ LL)
    have HN := Lib.hid hno
    clear LL hno hd qf bW bH L0
    go_wp2
    simp only [Exit.jump]
    refine bodyPost_ret (results_head rfl _ _ (w.heap.size + 1) _ (0, 0) rfl C5.out rfl) rfl ?_
    exact .inl ⟨HN.out, rfl, L5.out⟩
  case first =>
    go_upto_region 3 with (fail)
    generalize (w.alloc (.cells #[.int .u8 fk, .int .i64 fi, .int .u8 xk, .int .i64 xi, .int .u8 kd, .int .u8 bu, .int .i64 cu, .int .i64 pv, .int .i64 ge, .int .i64 ti, .slice wa wn wc] 29)).alloc (.cells #[.int .u8 0, .int .u16 0, .int .u16 0, .int .u8 0, .int .u8 0, .int .u32 0, .int .u32 0, .slice none 0 0, .slice none 0 0] 51) = W0 at *
    obtain ⟨q0, q1, q2, q3, q4, q5, q6, q7, q8, q9, q10⟩ := wr_cells _ _ _ _ _ _ _ _ _ _ _ _ _ bW
    go_wp2_with (fail)
    refine (eAddr_is fk fi W0).mono ?_
    rintro e w1 ⟨rfl, m1⟩
    have L1 := L0.trans (m1.mono L0.size)
    have bW1 := (m1.block _ (Array.getElem?_eq_some_iff.1 bW).1).trans bW
    have bH1 := (m1.block _ (Array.getElem?_eq_some_iff.1 bH).1).trans bH
    clear q0 q1 q2 q3 q4 q5 q6 q7 q8 q9 q10 bW bH L0 m1
    obtain ⟨q0, q1, q2, q3, q4, q5, q6, q7, q8, q9, q10⟩ := wr_cells _ _ _ _ _ _ _ _ _ _ _ _ _ bW1
    go_wp2_with (fail)
    refine (eAddr_is xk xi w1).mono ?_
    rintro e w2 ⟨rfl, m2⟩
    have L2 := L1.trans (m2.mono L1.size)
    have bW2 := (m2.block _ (Array.getElem?_eq_some_iff.1 bW1).1).trans bW1
    have bH2 := (m2.block _ (Array.getElem?_eq_some_iff.1 bH1).1).trans bH1
    clear q0 q1 q2 q3 q4 q5 q6 q7 q8 q9 q10 bW1 bH1 L1 m2
    obtain ⟨q0, q1, q2, q3, q4, q5, q6, q7, q8, q9, q10⟩ := wr_cells _ _ _ _ _ _ _ _ _ _ _ _ _ bW2
    have HV := Lib.hid (fun (u : Nod) (h : isNod u = true) => show adrV u = adr u by unfold adrV; rw [if_pos h])
    have HB := Lib.hid bH2
    have HL := Lib.hid L2
    cases h1 : isNod (fk, fi)
    · have HY := Lib.hid (show enOk fk fi xk xi kd bu cu pv ge ti = false by unfold enOk; rw [h1]; rfl)
      clear h1 bH2 L2 bW2
      go_wp2
      go_step3
      exact ⟨rfl, HL.out, HY.out, HB.out, _, _, _, _, _, _, _, _, _, _, _, _, _, _, _, _, _, _, _, _, _, _, _, _, _, _, _, _, _, _, _, _, _, _, _, _, _, _, _, _, _, _, rfl⟩
    cases h2 : isNod (xk, xi)
    · have HY := Lib.hid (show enOk fk fi xk xi kd bu cu pv ge ti = false by unfold enOk; rw [h1, h2]; rfl)
      clear h1 h2 bH2 L2 bW2
      go_wp2
      go_step3
      exact ⟨rfl, HL.out, HY.out, HB.out, _, _, _, _, _, _, _, _, _, _, _, _, _, _, _, _, _, _, _, _, _, _, _, _, _, _, _, _, _, _, _, _, _, _, _, _, _, _, _, _, _, _, rfl⟩
    have HA := Lib.hid (And.intro h1 h2)
    rw [HV.out _ h1, HV.out _ h2]
    clear h1 h2
    obtain ⟨sr, hsr⟩ : ∃ x, adr (fk, fi) = x := ⟨_, rfl⟩
    obtain ⟨ds, hds⟩ : ∃ x, adr (xk, xi) = x := ⟨_, rfl⟩
    have HS := Lib.hid (And.intro hsr hds)
    rw [hsr, hds]
    clear hsr hds
    cases ho : optOk kd bu cu pv ge ti
    · have HY := Lib.hid (show enOk fk fi xk xi kd bu cu pv ge ti = false by unfold enOk; rw [ho]; simp)
      have K := Lib.hid (oPut_no kd bu cu pv ge ti HH.out ho w2)
      clear ho
      go_wp2_with (fail)
      refine K.out.mono ?_
      rintro e w3 ⟨A, c, rfl, m3⟩
      have bH3 := (m3.block _ (Array.getElem?_eq_some_iff.1 HB.out).1).trans HB.out
      have HB3 := Lib.hid bH3
      have HL3 := Lib.hid (HL.out.trans (m3.mono HL.out.size))
      clear q0 q1 q2 q3 q4 q5 q6 q7 q8 q9 q10 bW2 bH2 L2 m3 K bH3
      go_wp2
      go_step3
      exact ⟨rfl, HL3.out, HY.out, HB3.out, _, _, _, _, _, _, _, _, _, _, _, _, _, _, _, _, _, _, _, _, _, _, _, _, _, _, _, _, _, _, _, _, _, _, _, _, _, _, _, _, _, _, rfl⟩
    · have HY := Lib.hid (show enOk fk fi xk xi kd bu cu pv ge ti = true by unfold enOk; rw [ho, HA.out.1, HA.out.2]; rfl)
      have K := Lib.hid (oPut_yes kd bu cu pv ge ti HH.out ho w2)
      clear ho
      go_wp2_with (fail)
      refine K.out.mono ?_
      rintro e w3 ⟨A, c, rfl, hc1, hc2, R3, m3⟩
      have bH3 := (m3.block _ (Array.getElem?_eq_some_iff.1 HB.out).1).trans HB.out
      have bW3 := (m3.block _ (Array.getElem?_eq_some_iff.1 bW2).1).trans bW2
      have HB3 := Lib.hid bH3
      have HL3 := Lib.hid (HL.out.trans (m3.mono HL.out.size))
      have HR3 := Lib.hid (And.intro hc1 (And.intro hc2 R3))
      clear q0 q1 q2 q3 q4 q5 q6 q7 q8 q9 q10 bW2 bH2 L2 m3 K hc1 hc2 R3
      obtain ⟨q0, q1, q2, q3, q4, q5, q6, q7, q8, q9, q10⟩ := wr_cells _ _ _ _ _ _ _ _ _ _ _ _ _ bW3
      obtain ⟨⟨p0, p1, p2, p3, p4, p5, p6, p7, p8⟩, qf⟩ := nine_cells bH3
      have f0 := qf 0
      have f1 := qf 1
      have f2 := qf 2
      have f3 := qf 3
      have f4 := qf 4
      have f5 := qf 5
      have f6 := qf 6
      have f7 := qf 7
      have f8 := qf 8
      clear bH3 bW3 qf
      go_wp2
      refine bodyPost_ret (results_head rfl _ _ (w.heap.size + 1) _ (0, 0) rfl (full_setCells HB3.out [.int .u8 0, .int .u16 0, .int .u16 0, .int .u8 64, .int .u8 4, .int .u32 sr, .int .u32 ds, .slice A 16 c, .slice wa wn wc] rfl) rfl) rfl ?_
      have hB := below_setCells (w.heap.size + 1) (by omega) [.int .u8 0, .int .u16 0, .int .u16 0, .int .u8 64, .int .u8 4, .int .u32 sr, .int .u32 ds, .slice A 16 c, .slice wa wn wc] 0 w _ HL3.out
      unfold EnHeadRet
      rw [HS.out.1, HS.out.2]
      exact .inr ⟨HY.out, A, c, rfl, HR3.out.1, HR3.out.2.1, row_apart HB3.out HR3.out.2.2 (by simp [optB]) [.int .u8 0, .int .u16 0, .int .u16 0, .int .u8 64, .int .u8 4, .int .u32 sr, .int .u32 ds, .slice A 16 c, .slice wa wn wc], hB⟩
end Go.Proofs.YthenbpnlmpeafaaDoor
