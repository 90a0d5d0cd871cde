/- Package encap: Put, Own, Same. -/
import Derived.Test.YthenbpnlmpeafaaDoorEnP
namespace Go.Proofs.YthenbpnlmpeafaaDoor
open Go.RowKit Go.Shelf
open SumM

set_option maxRecDepth 100000 in
set_option maxHeartbeats 8000000 in
theorem ePut_is (fk fi xk xi kd bu cu pv ge ti : Int) (wa : Option Addr) (wn wc : Nat) (zs : List Int) (H : ONums kd bu cu pv ge ti) (hdn : wn ≤ 281474976710600) (w : World) (hg : 0 < w.heap.size) (hW : Wid w) (hr : Row .u8 w.heap.size w wa zs) (hl : zs.length = wn) (hn : wa = none → wc = 0) :
    Calls Tryd.prog 13 #[.agg #[.int .u8 fk, .int .i64 fi, .int .u8 xk, .int .i64 xi, .int .u8 kd, .int .u8 bu, .int .i64 cu, .int .i64 pv, .int .i64 ge, .int .i64 ti, .slice wa wn wc]] w (EnPutRet fk fi xk xi kd bu cu pv ge ti zs w) := by
  have bW := heap_alloc_new w (.cells #[.int .u8 fk, .int .i64 fi, .int .u8 xk, .int .i64 xi, .int .u8 kd, .int .u8 bu, .int .i64 cu, .int .i64 pv, .int .i64 ge, .int .i64 ti, .slice wa wn wc] 29)
  have L0 := (Below.refl w.heap.size w).alloc (Nat.le_refl _) (.cells #[.int .u8 fk, .int .i64 fi, .int .u8 xk, .int .i64 xi, .int .u8 kd, .int .u8 bu, .int .i64 cu, .int .i64 pv, .int .i64 ge, .int .i64 ti, .slice wa wn wc] 29)
  have HR := Lib.hid (fun W (m : Below w.heap.size w W) => (hr.below m).more m.size)
  have HG := Lib.hid (fun W (m : Below w.heap.size w W) => And.intro (Nat.lt_of_lt_of_le hg m.size) (hW.below hg m))
  have HH := Lib.hid H
  have HL := Lib.hid hl
  have HN := Lib.hid hn
  have HI := Lib.hid (row_in hr)
  clear hr H hl hn hg hW
  go_enter Tryd.func13, Tryd.ntmps13
  go_wp2_with (fail)
  refine wp_scope_jumps 0 (fun a' w' => Below w.heap.size w w' ∧ ∃ y, enY fk fi xk xi kd bu cu pv ge ti zs.length = y ∧ y ≠ 0 ∧ ∃ (u0 u1 u2 u4 u5 u6 u7 u8 u9 u10 u11 u12 u13 u14 u15 u16 u17 u18 u19 u20 u21 : Value), a' = { tmps := #[u0, u1, u2, .int .u8 y, u4, u5, u6, u7, u8, u9, u10, u11, u12, u13, u14, u15, u16, u17, u18, u19, u20, u21], defers := [] }) (fun _ _ => 0) rfl ?first ?pass
  case pass =>
    rintro a' w' ⟨LL, y, hy, h0, u0, u1, u2, u4, u5, u6, u7, u8, u9, u10, u11, u12, u13, u14, u15, u16, u17, u18, u19, u20, u21, rfl⟩
    have HY := Lib.hid (And.intro hy (And.intro h0 LL))
    clear LL hy h0 bW L0
    go_wp2
    simp only [Exit.jump]
    go_ret2
    exact enPut_no HY.out.1 HY.out.2.1 HY.out.2.2
  case first =>
    go_upto_region 1 with (fail)
    generalize w.alloc (.cells #[.int .u8 fk, .int .i64 fi, .int .u8 xk, .int .i64 xi, .int .u8 kd, .int .u8 bu, .int .i64 cu, .int .i64 pv, .int .i64 ge, .int .i64 ti, .slice wa wn wc] 29) = W0 at *
    obtain ⟨q0, q1, q2, q3, q4, q5, q6, q7, q8, q9, q10⟩ := wr_cells _ _ _ _ _ _ _ _ _ _ _ _ _ bW
    have K := Lib.hid (eHead_any fk fi xk xi kd bu cu pv ge ti wa wn wc HH.out W0)
    go_wp2_with (fail)
    refine K.out.mono ?_
    rintro e w1 (⟨hno, rfl, m1⟩ | ⟨hok, A, c, rfl, hc1, hc2, R1, m1⟩)
    · have HY := Lib.hid (show enY fk fi xk xi kd bu cu pv ge ti zs.length = 13 by unfold enY; rw [hno]; rfl)
      have HL1 := Lib.hid ((L0.trans (m1.mono L0.size)).alloc (L0.trans (m1.mono L0.size)).size (.cells #[.int .u8 0, .int .u16 0, .int .u16 0, .int .u8 0, .int .u8 0, .int .u32 0, .int .u32 0, .slice none 0 0, .slice none 0 0] 51))
      clear q0 q1 q2 q3 q4 q5 q6 q7 q8 q9 q10 bW L0 m1 K hno
      go_wp2
      go_step3
      exact ⟨rfl, HL1.out, 13, HY.out, by decide, _, _, _, _, _, _, _, _, _, _, _, _, _, _, _, _, _, _, _, _, _, rfl⟩
    · obtain ⟨h1, h2, h3⟩ := enOk_iff.1 hok
      have a1 := adr_all _ (isNod_mem.1 h1)
      have a2 := adr_all _ (isNod_mem.1 h2)
      have HA := Lib.hid (show Nums 0 0 0 64 4 (adr (fk, fi)) (adr (xk, xi)) from ⟨by decide, by decide, by decide, by decide, by decide, a1, a2⟩)
      have HOK := Lib.hid hok
      clear h1 h2 h3 a1 a2 hok
      obtain ⟨sr, hsr⟩ : ∃ x, adr (fk, fi) = x := ⟨_, rfl⟩
      obtain ⟨ds, hds⟩ : ∃ x, adr (xk, xi) = x := ⟨_, rfl⟩
      have HS := Lib.hid (And.intro hsr hds)
      rw [hsr, hds] at HA
      rw [hsr, hds]
      have L1 := L0.trans (m1.mono L0.size)
      clear q0 q1 q2 q3 q4 q5 q6 q7 q8 q9 q10 bW L0 m1 K hsr hds
      go_upto_region 3 with (fail)
      have bH := heap_alloc_new w1 (.cells #[.int .u8 0, .int .u16 0, .int .u16 0, .int .u8 64, .int .u8 4, .int .u32 sr, .int .u32 ds, .slice A 16 c, .slice wa wn wc] 51)
      have L2 := L1.alloc L1.size (.cells #[.int .u8 0, .int .u16 0, .int .u16 0, .int .u8 64, .int .u8 4, .int .u32 sr, .int .u32 ds, .slice A 16 c, .slice wa wn wc] 51)
      have R2 := Lib.hid (And.intro hc1 (And.intro hc2 (R1.allocS (.cells #[.int .u8 0, .int .u16 0, .int .u16 0, .int .u8 64, .int .u8 4, .int .u32 sr, .int .u32 ds, .slice A 16 c, .slice wa wn wc] 51))))
      generalize w1.alloc (.cells #[.int .u8 0, .int .u16 0, .int .u16 0, .int .u8 64, .int .u8 4, .int .u32 sr, .int .u32 ds, .slice A 16 c, .slice wa wn wc] 51) = W2 at *
      generalize w1.heap.size = ah at *
      obtain ⟨x0, x1, x2, x3, x4, x5, x6, x7, x8⟩ := head_cells _ _ _ _ _ _ _ _ _ _ _ _ _ bH
      have HL2 := Lib.hid L2
      clear L1 L2 hc1 hc2 R1 bH
      have hin := optB_in (cu := cu) (pv := pv) (ge := ge) (ti := ti) HH.out.h1 HH.out.h2
      have HIN := Lib.hid hin
      clear hin
      by_cases hsz : 36 + wn ≤ 65535
      · have hrt : rightB 0 16 wn = true := decide_eq_true ⟨.inl rfl, by omega, rfl, by omega⟩
        have hAn : A = none → c = 0 := fun hA => by
          obtain ⟨b, off, e, _⟩ := R2.out.2.2.2 (by simp [optB])
          rw [hA] at e
          cases e
        have K := Lib.hid (ipPut_yes 0 0 0 64 4 sr ds A 16 c wa wn wc (optB kd bu cu pv ge ti) zs HA.out hrt W2 (HG.out _ HL2.out).1 (HG.out _ HL2.out).2 R2.out.2.2 rfl hAn (HR.out _ HL2.out) HL.out HN.out)
        have HSZ := Lib.hid hsz
        clear hrt hsz hAn
        go_wp2_with (fail)
        refine K.out.mono ?_
        rintro e w4 ⟨A4, c4, rfl, o4, m4⟩
        have HO4 := Lib.hid (And.intro o4 m4)
        clear o4 m4 x0 x1 x2 x3 x4 x5 x6 x7 x8 K
        go_wp2
        go_ret2
        obtain ⟨o4, m4⟩ := HO4.out
        have hy : enY fk fi xk xi kd bu cu pv ge ti zs.length = 0 := by unfold enY; rw [if_pos HOK.out, if_pos (by rw [HL.out]; exact HSZ.out)]
        have hz : enZ fk fi xk xi kd bu cu pv ge ti zs = putOf 0 0 0 64 4 sr ds 16 wn (optB kd bu cu pv ge ti) zs := by unfold enZ; rw [if_pos hy]; unfold enB; rw [HS.out.1, HS.out.2, HL.out]
        refine ⟨A4, _, c4, by rw [hy]; rfl, by rw [hz], by rw [hz]; exact Row.of_own o4 (in_wf8 (putOf_in HIN.out HI.out)), fun hA => own_nil o4 hA, (own_cap o4).1, (own_cap o4).2, HL2.out.trans (m4.mono HL2.out.size)⟩
      · have hrt : rightB 0 16 wn = false := decide_eq_false (by omega)
        have K := Lib.hid (ipPut_no 0 0 0 64 4 sr ds A 16 c wa wn wc hrt (by omega) (by omega) W2)
        have HY := Lib.hid (show enY fk fi xk xi kd bu cu pv ge ti zs.length = 12 by unfold enY; rw [if_pos HOK.out, if_neg (by rw [HL.out]; exact hsz)])
        clear hrt hsz
        go_wp2_with (fail)
        refine K.out.mono ?_
        rintro e w4 ⟨rfl, m4⟩
        have HL4 := Lib.hid (HL2.out.trans (m4.mono HL2.out.size))
        clear m4 x0 x1 x2 x3 x4 x5 x6 x7 x8 K
        go_wp2
        go_step3
        exact ⟨rfl, HL4.out, 12, HY.out, by decide, _, _, _, _, _, _, _, _, _, _, _, _, _, _, _, _, _, _, _, _, _, rfl⟩

set_option maxRecDepth 100000 in
set_option maxHeartbeats 4000000 in
theorem eSame_any (fk fi xk xi kd bu cu pv ge ti : Int) (wa : Option Addr) (wn wc : Nat) (fk' fi' xk' xi' kd' bu' cu' pv' ge' ti' : Int) (wa' : Option Addr) (wn' wc' : Nat) (zs zs' : List Int) (B B' : Nat) (w : World) (hB : B ≤ w.heap.size) (hB' : B' ≤ w.heap.size) (hr : Row .u8 B w wa zs) (hl : zs.length = wn) (hr' : Row .u8 B' w wa' zs') (hl' : zs'.length = wn') :
    Calls Tryd.prog 22 #[.agg #[.int .u8 fk, .int .i64 fi, .int .u8 xk, .int .i64 xi, .int .u8 kd, .int .u8 bu, .int .i64 cu, .int .i64 pv, .int .i64 ge, .int .i64 ti, .slice wa wn wc], .agg #[.int .u8 fk', .int .i64 fi', .int .u8 xk', .int .i64 xi', .int .u8 kd', .int .u8 bu', .int .i64 cu', .int .i64 pv', .int .i64 ge', .int .i64 ti', .slice wa' wn' wc']] w fun e w' => e = .returned (.bool (wrB fk fi xk xi kd bu cu pv ge ti zs fk' fi' xk' xi' kd' bu' cu' pv' ge' ti' zs')) ∧ Below w.heap.size w w' := by
  have bB := heap_alloc_new (w.alloc (.cells #[.int .u8 fk, .int .i64 fi, .int .u8 xk, .int .i64 xi, .int .u8 kd, .int .u8 bu, .int .i64 cu, .int .i64 pv, .int .i64 ge, .int .i64 ti, .slice wa wn wc] 29)) (.cells #[.int .u8 fk', .int .i64 fi', .int .u8 xk', .int .i64 xi', .int .u8 kd', .int .u8 bu', .int .i64 cu', .int .i64 pv', .int .i64 ge', .int .i64 ti', .slice wa' wn' wc'] 29)
  rw [World.size_alloc] at bB
  have bA := (Below.heap_alloc (w.alloc (.cells #[.int .u8 fk, .int .i64 fi, .int .u8 xk, .int .i64 xi, .int .u8 kd, .int .u8 bu, .int .i64 cu, .int .i64 pv, .int .i64 ge, .int .i64 ti, .slice wa wn wc] 29)) (.cells #[.int .u8 fk', .int .i64 fi', .int .u8 xk', .int .i64 xi', .int .u8 kd', .int .u8 bu', .int .i64 cu', .int .i64 pv', .int .i64 ge', .int .i64 ti', .slice wa' wn' wc'] 29) w.heap.size (by simp)).trans (heap_alloc_new w (.cells #[.int .u8 fk, .int .i64 fi, .int .u8 xk, .int .i64 xi, .int .u8 kd, .int .u8 bu, .int .i64 cu, .int .i64 pv, .int .i64 ge, .int .i64 ti, .slice wa wn wc] 29))
  have L0 := ((Below.refl w.heap.size w).alloc (Nat.le_refl _) (.cells #[.int .u8 fk, .int .i64 fi, .int .u8 xk, .int .i64 xi, .int .u8 kd, .int .u8 bu, .int .i64 cu, .int .i64 pv, .int .i64 ge, .int .i64 ti, .slice wa wn wc] 29)).alloc (by simp) (.cells #[.int .u8 fk', .int .i64 fi', .int .u8 xk', .int .i64 xi', .int .u8 kd', .int .u8 bu', .int .i64 cu', .int .i64 pv', .int .i64 ge', .int .i64 ti', .slice wa' wn' wc'] 29)
  have KE := Lib.hid (equal_any wa wn wc zs wa' wn' wc' zs' B B' _ (hr.below (L0.mono hB)) hl (hr'.below (L0.mono hB')) hl')
  have E1 := fun W => run_eqD fk fi fk' fi' W
  have E2 := fun W => run_eqD xk xi xk' xi' W
  have E3 := fun W => run_eqO kd bu cu pv ge ti kd' bu' cu' pv' ge' ti' W
  obtain ⟨q0, q1, q2, q3, q4, q5, q6, q7, q8, q9, q10⟩ := wr_cells _ _ _ _ _ _ _ _ _ _ _ _ _ bA
  obtain ⟨z0, z1, z2, z3, z4, z5, z6, z7, z8, z9, z10⟩ := wr_cells _ _ _ _ _ _ _ _ _ _ _ _ _ bB
  unfold wrB
  generalize eqD (fk, fi) (fk', fi') = b1 at *
  generalize eqD (xk, xi) (xk', xi') = b2 at *
  generalize eqO kd bu cu pv ge ti kd' bu' cu' pv' ge' ti' = b3 at *
  clear hr hr' hl hl' bA bB hB hB'
  go_enter Tryd.func22, Tryd.ntmps22
  go_upto_region 1 with (fail)
  generalize (w.alloc (.cells #[.int .u8 fk, .int .i64 fi, .int .u8 xk, .int .i64 xi, .int .u8 kd, .int .u8 bu, .int .i64 cu, .int .i64 pv, .int .i64 ge, .int .i64 ti, .slice wa wn wc] 29)).alloc (.cells #[.int .u8 fk', .int .i64 fi', .int .u8 xk', .int .i64 xi', .int .u8 kd', .int .u8 bu', .int .i64 cu', .int .i64 pv', .int .i64 ge', .int .i64 ti', .slice wa' wn' wc'] 29) = W0 at *
  have H0 := Lib.hid L0
  clear L0
  cases b1
  · go_wp2
    go_ret
    exact ⟨rfl, H0.out⟩
  · cases b2
    · go_wp2
      go_ret
      exact ⟨rfl, H0.out⟩
    · cases b3
      · go_wp2
        go_ret
        exact ⟨rfl, H0.out⟩
      · go_wp2_with (fail)
        refine KE.out.mono ?_
        rintro e w1 ⟨rfl, rfl⟩
        go_wp2
        go_ret
        exact ⟨rfl, H0.out⟩
set_option maxRecDepth 100000 in
set_option maxHeartbeats 8000000 in
theorem eOwn_any (fk fi xk xi kd bu cu pv ge ti : Int) (wa : Option Addr) (wn wc : Nat) (zs : List Int) (w : World) (hr : Row .u8 w.heap.size w wa zs) (hl : zs.length = wn) (hn : wa = none → wc = 0) (hle : wn ≤ 1000000) :
    Calls Tryd.prog 23 #[.agg #[.int .u8 fk, .int .i64 fi, .int .u8 xk, .int .i64 xi, .int .u8 kd, .int .u8 bu, .int .i64 cu, .int .i64 pv, .int .i64 ge, .int .i64 ti, .slice wa wn wc]] w fun e w' => ∃ A c, e = .returned (.agg #[.int .u8 fk, .int .i64 fi, .int .u8 xk, .int .i64 xi, .int .u8 kd, .int .u8 bu, .int .i64 cu, .int .i64 pv, .int .i64 ge, .int .i64 ti, .slice A wn c]) ∧ w'.ownsRow w.heap.size 5 1 (.slice A wn c) wn (zs.map (Value.int .u8)) ∧ Below w.heap.size w w' := by
  have bW := blk_al (heap_alloc_new w (.cells #[.int .u8 fk, .int .i64 fi, .int .u8 xk, .int .i64 xi, .int .u8 kd, .int .u8 bu, .int .i64 cu, .int .i64 pv, .int .i64 ge, .int .i64 ti, .slice wa wn wc] 29)) (.cells #[.int .u8 0, .int .i64 0, .int .u8 0, .int .i64 0, .int .u8 0, .int .u8 0, .int .i64 0, .int .i64 0, .int .i64 0, .int .i64 0, .slice none 0 0] 29)
  have bR := heap_alloc_new_at (w := w.alloc (.cells #[.int .u8 fk, .int .i64 fi, .int .u8 xk, .int .i64 xi, .int .u8 kd, .int .u8 bu, .int .i64 cu, .int .i64 pv, .int .i64 ge, .int .i64 ti, .slice wa wn wc] 29)) (m := w.heap.size + 1) (by simp) (.cells #[.int .u8 0, .int .i64 0, .int .u8 0, .int .i64 0, .int .u8 0, .int .u8 0, .int .i64 0, .int .i64 0, .int .i64 0, .int .i64 0, .slice none 0 0] 29)
  have L0 := ((Below.refl w.heap.size w).alloc (Nat.le_refl _) (.cells #[.int .u8 fk, .int .i64 fi, .int .u8 xk, .int .i64 xi, .int .u8 kd, .int .u8 bu, .int .i64 cu, .int .i64 pv, .int .i64 ge, .int .i64 ti, .slice wa wn wc] 29)).alloc (by simp) (.cells #[.int .u8 0, .int .i64 0, .int .u8 0, .int .i64 0, .int .u8 0, .int .u8 0, .int .i64 0, .int .i64 0, .int .i64 0, .int .i64 0, .slice none 0 0] 29)
  have hs : w.heap.size ≤ ((w.alloc (.cells #[.int .u8 fk, .int .i64 fi, .int .u8 xk, .int .i64 xi, .int .u8 kd, .int .u8 bu, .int .i64 cu, .int .i64 pv, .int .i64 ge, .int .i64 ti, .slice wa wn wc] 29)).alloc (.cells #[.int .u8 0, .int .i64 0, .int .u8 0, .int .i64 0, .int .u8 0, .int .u8 0, .int .i64 0, .int .i64 0, .int .i64 0, .int .i64 0, .slice none 0 0] 29)).heap.size := by simp; omega
  have K := Lib.hid (clone_any wa wn wc zs hl _ ((hr.below L0).more hs) hn (by omega))
  have HL := Lib.hid hl
  clear hr hl hn
  go_enter Tryd.func23, Tryd.ntmps23
  go_upto_region 1 with (fail)
  generalize (w.alloc (.cells #[.int .u8 fk, .int .i64 fi, .int .u8 xk, .int .i64 xi, .int .u8 kd, .int .u8 bu, .int .i64 cu, .int .i64 pv, .int .i64 ge, .int .i64 ti, .slice wa wn wc] 29)).alloc (.cells #[.int .u8 0, .int .i64 0, .int .u8 0, .int .i64 0, .int .u8 0, .int .u8 0, .int .i64 0, .int .i64 0, .int .i64 0, .int .i64 0, .slice none 0 0] 29) = W0 at *
  obtain ⟨q0, q1, q2, q3, q4, q5, q6, q7, q8, q9, q10⟩ := wr_cells _ _ _ _ _ _ _ _ _ _ _ _ _ bW
  have f10 := wr_frozen bW 10
  go_wp2_with (fail)
  refine K.out.mono ?_
  rintro e w1 ⟨A, c, rfl, O1, m1⟩
  rw [HL.out] at O1 ⊢
  have L1 := L0.trans (m1.mono L0.size)
  have bW1 := (m1.block _ (Array.getElem?_eq_some_iff.1 bW).1).trans bW
  have bR1 := (m1.block _ (Array.getElem?_eq_some_iff.1 bR).1).trans bR
  clear q0 q1 q2 q3 q4 q5 q6 q7 q8 q9 q10 f10 bW bR L0 K m1
  have q10 := (wr_cells _ _ _ _ _ _ _ _ _ _ _ _ _ bW1).2.2.2.2.2.2.2.2.2.2
  have f10 := wr_frozen bW1 10
  have HW1 := Lib.hid bW1
  go_upto_region 2 with (fail)
  have bW2 : (w1.setCell ⟨w.heap.size, 10, none⟩ (.slice A wn c)).heap[w.heap.size]? = some (.cells #[.int .u8 fk, .int .i64 fi, .int .u8 xk, .int .i64 xi, .int .u8 kd, .int .u8 bu, .int .i64 cu, .int .i64 pv, .int .i64 ge, .int .i64 ti, .slice A wn c] 29 (0, 0)) := heap_setCell_same w1 w.heap.size 10 _ _ (.slice A wn c) HW1.out
  have bR2 := (Below.heap_setCell w1 ⟨w.heap.size, 10, none⟩ (.slice A wn c) (w.heap.size + 1) (by simp)).trans bR1
  have L2 := L1.setCell (p := ⟨w.heap.size, 10, none⟩) (Nat.le_refl _) (.slice A wn c)
  have O2 : (w1.setCell ⟨w.heap.size, 10, none⟩ (.slice A wn c)).ownsRow w.heap.size 5 1 (.slice A wn c) wn (zs.map (Value.int .u8)) := own_apartN (by decide) [.slice A wn c] 10 _ _ (own_base O1 hs) HW1.out
  clear q10 f10 bW1 bR1 L1 O1 HW1
  generalize w1.setCell ⟨w.heap.size, 10, none⟩ (.slice A wn c) = W2 at *
  obtain ⟨q0, q1, q2, q3, q4, q5, q6, q7, q8, q9, q10⟩ := wr_cells _ _ _ _ _ _ _ _ _ _ _ _ _ bW2
  obtain ⟨z0, z1, z2, z3, z4, z5, z6, z7, z8, z9, z10⟩ := wr_cells _ _ _ _ _ _ _ _ _ _ _ _ _ bR2
  have g0 := wr_frozen bR2 0
  have g1 := wr_frozen bR2 1
  have g2 := wr_frozen bR2 2
  have g3 := wr_frozen bR2 3
  have g4 := wr_frozen bR2 4
  have g5 := wr_frozen bR2 5
  have g6 := wr_frozen bR2 6
  have g7 := wr_frozen bR2 7
  have g8 := wr_frozen bR2 8
  have g9 := wr_frozen bR2 9
  have g10 := wr_frozen bR2 10
  have HR := Lib.hid bR2
  have HO := Lib.hid O2
  have HL2 := Lib.hid L2
  clear bW2 bR2 L2 O2
  go_wp2
  refine bodyPost_ret (results_cell_row rfl _ _ (w.heap.size + 1) 29 _ (0, 0) _ rfl (full_setCells HR.out [.int .u8 fk, .int .i64 fi, .int .u8 xk, .int .i64 xi, .int .u8 kd, .int .u8 bu, .int .i64 cu, .int .i64 pv, .int .i64 ge, .int .i64 ti, .slice A wn c] rfl) Tryd.underlying29 rfl Tryd.infoWr) rfl ?_
  exact ⟨A, c, rfl, own_apartN (by decide) [.int .u8 fk, .int .i64 fi, .int .u8 xk, .int .i64 xi, .int .u8 kd, .int .u8 bu, .int .i64 cu, .int .i64 pv, .int .i64 ge, .int .i64 ti, .slice A wn c] 0 _ _ HO.out HR.out, below_setCells (w.heap.size + 1) (by omega) [.int .u8 fk, .int .i64 fi, .int .u8 xk, .int .i64 xi, .int .u8 kd, .int .u8 bu, .int .i64 cu, .int .i64 pv, .int .i64 ge, .int .i64 ti, .slice A wn c] 0 w _ HL2.out⟩
end Go.Proofs.YthenbpnlmpeafaaDoor
