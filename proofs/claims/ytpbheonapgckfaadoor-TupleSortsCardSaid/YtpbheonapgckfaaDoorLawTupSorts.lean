/- 'handfastlaw04.TupleSorts' returns true at all tuples that came in, and leaves what lay as it lay. -/
import Derived.Test.YtpbheonapgckfaaDoorTupEq
namespace Go.Proofs.YtpbheonapgckfaaDoor
open Go.RowKit Go.Shelf
open SumM

theorem cntT_snoc (l : List Tup) (k : Nat) (hk : k < l.length) (s : Tup) : (l.take (k + 1)).count s = (l.take k).count s + if l[k]?.getD tup0 = s then 1 else 0 := by
  rw [List.take_add_one, List.getElem?_eq_getElem hk, List.count_append]
  simp [List.count_singleton]

theorem sortedT_at (l : List Tup) (h : l.Pairwise leT) (i : Nat) (h0 : 0 < i) (hi : i < l.length) : ¬ cmpT (l[i]?.getD tup0) (l[i - 1]?.getD tup0) < 0 := by
  rw [List.getElem?_eq_getElem hi, List.getElem?_eq_getElem (by omega), Option.getD_some, Option.getD_some]
  exact leT_iff.1 (List.pairwise_iff_getElem.1 h (i - 1) i (by omega) hi (by omega))

theorem mem_at (l : List Tup) (i : Nat) (hi : i < l.length) : l[i]?.getD tup0 ∈ l := by
  rw [List.getElem?_eq_getElem hi]
  exact List.getElem_mem hi

set_option maxRecDepth 100000 in
set_option maxHeartbeats 16000000 in
theorem tupSorts_walk (a0 : Option Addr) (len0 cap0 : Nat) (us : List Tup) (w : World) (hT : Tab w) (w0 : IsTRow w a0 len0 cap0 us) :
    Calls Tryd.prog 7 #[.slice a0 len0 cap0] w fun e w' => e = .returned (.bool true) ∧ Below w.heap.size w w' := by
  obtain ⟨hR, hl, _, hlc, hmc⟩ := w0
  unfold maxLen at hmc
  have TW := Lib.hid (fun W (m : Below w.heap.size w W) => uwakes_any W (hT.step m (Nat.le_refl _)))
  have HL := Lib.hid hl
  have RU := Lib.hid hR
  clear hT hl hR
  by_cases hbig : 60 < len0
  · have p1 : decide ((60 : Int) < (len0 : Int)) = true := decide_eq_true (by omega)
    have L0 := Below.refl w.heap.size w
    go_enter Tryd.func7, Tryd.ntmps7
    go_wp2_with (go_at_call 8; (with_reducible refine (TW.out _ L0).mono ?_); rintro e w3 ⟨rfl, m3⟩)
    go_ret
    exact ⟨rfl, m3⟩
  have p1 : decide ((60 : Int) < (len0 : Int)) = false := decide_eq_false (by omega)
  have hl60 : len0 ≤ 60 := by omega
  have KS := Lib.hid (show Calls Tryd.prog 22 #[.slice a0 len0 cap0] w (fun e w' => ∃ A c, e = .returned (.slice A len0 c) ∧ TRow w'.heap.size w' A (sortT us) ∧ Below w.heap.size w w') from by
    have h := tSorted_any a0 len0 cap0 us w RU.out HL.out (by omega)
    unfold TRowRet at h
    rwa [sortT_length, HL.out] at h)
  have HP := Lib.hid (fun u => sortT_count us u)
  have HS := Lib.hid (sortT_sorted us)
  have HO := Lib.hid (sortT_ok RU.out.1)
  have HM := Lib.hid (show (sortT us).length = len0 by rw [sortT_length, HL.out])
  clear hbig
  go_enter Tryd.func7, Tryd.ntmps7
  go_wp2_with (fail)
  refine KS.out.mono ?_
  rintro e w1 ⟨A, c, rfl, RS0, m1⟩
  have RS := Lib.hid RS0
  have R1 := Lib.hid ((RU.out.below m1).more m1.size)
  have M1 := Lib.hid m1
  clear RS0 m1 KS
  generalize sortT us = ss at *
  have p2 : ((len0 : Int) != (len0 : Int)) = false := by simp
  go_wp2_with (fail)
  go_loopw [4] (fun i wr => ∃ k : Nat, k ≤ len0 ∧ i = .int .i64 k ∧ Below w1.heap.size w1 wr) (fun i _ => len0 - (intOf i).toNat)
  case atStart => exact ⟨0, Nat.zero_le _, rfl, Below.refl _ _⟩
  case round =>
    obtain ⟨k, hk, rfl, hnx⟩ := hrel
    have HX := Lib.hid hnx
    clear hnx
    by_cases hlt : k < len0
    · obtain ⟨bs, offs, rfl, hbs, cs⟩ := (RS.out.below HX.out).2 (by rw [HM.out]; omega)
      obtain ⟨bl, offl, rfl, hbl, cl⟩ := (R1.out.below HX.out).2 (by rw [HL.out]; omega)
      have CSS := Lib.hid cs
      have CLL := Lib.hid cl
      have HB := Lib.hid (And.intro hbs hbl)
      obtain ⟨x0', x1', x2', x3'⟩ := cs k (by rw [HM.out]; exact hlt)
      have HU := Lib.hid (HO.out _ (mem_at ss k (by rw [HM.out]; exact hlt)))
      have PREV := Lib.hid (fun (h0 : 0 < k) => sortedT_at ss HS.out k h0 (by rw [HM.out]; exact hlt))
      clear cs cl hbs hbl
      generalize ss[k]?.getD tup0 = x at *
      obtain ⟨x0, x1, x2, x3⟩ := x
      simp only at x0' x1' x2' x3'
      go_wp2_with (fail)
      generalize wr = wo at *
      go_loopw [5, 6, 7] (fun n m j wi => ∃ q : Nat, q ≤ len0 ∧ j = .int .i64 q ∧ n = .int .i64 ((us.take q).count (x0, x1, x2, x3) : Nat) ∧ m = .int .i64 ((ss.take q).count (x0, x1, x2, x3) : Nat) ∧ ∃ d, wi = wo.drewN d) (fun _ _ j _ => len0 - (intOf j).toNat)
      case atStart => exact ⟨0, Nat.zero_le _, rfl, rfl, rfl, 0, rfl⟩
      case round =>
        obtain ⟨q, hq, rfl, rfl, rfl, d, rfl⟩ := hrel
        by_cases hlt2 : q < len0
        · have B1 : (us.take q).count (x0, x1, x2, x3) ≤ 60 := Nat.le_trans List.count_le_length (by simp; omega)
          have B2 : (ss.take q).count (x0, x1, x2, x3) ≤ 60 := Nat.le_trans List.count_le_length (by simp; omega)
          have CC := Lib.hid (And.intro (cntT_snoc us q (by rw [HL.out]; exact hlt2) (x0, x1, x2, x3)) (cntT_snoc ss q (by rw [HM.out]; exact hlt2) (x0, x1, x2, x3)))
          obtain ⟨y0', y1', y2', y3'⟩ := CLL.out q (by rw [HL.out]; exact hlt2)
          obtain ⟨z0', z1', z2', z3'⟩ := CSS.out q (by rw [HM.out]; exact hlt2)
          generalize us[q]?.getD tup0 = y at *
          generalize ss[q]?.getD tup0 = z at *
          obtain ⟨y0, y1, y2, y3⟩ := y
          obtain ⟨z0, z1, z2, z3⟩ := z
          simp only at y0' y1' y2' y3' z0' z1' z2' z3'
          generalize (us.take q).count (x0, x1, x2, x3) = n1 at *
          generalize (ss.take q).count (x0, x1, x2, x3) = n2 at *
          have i1 : (0 : Int) ≤ (q : Int) := by omega
          have i2 : (q : Int) < (len0 : Int) := by omega
          have i3 : (0 : Int) ≤ (k : Int) := by omega
          have i4 : (k : Int) < (len0 : Int) := by omega
          clear HO HB PREV HU HX RS R1 M1 HP HS
          have E1 := fun W => run_eqU y0 y1 y2 y3 x0 x1 x2 x3 W
          have E2 := fun W => run_eqU z0 z1 z2 z3 x0 x1 x2 x3 W
          have D1 := Lib.hid (show (us.take (q + 1)).count (x0, x1, x2, x3) = n1 + if eqU y0 y1 y2 y3 x0 x1 x2 x3 = true then 1 else 0 by rw [CC.out.1, eqU_if])
          have D2 := Lib.hid (show (ss.take (q + 1)).count (x0, x1, x2, x3) = n2 + if eqU z0 z1 z2 z3 x0 x1 x2 x3 = true then 1 else 0 by rw [CC.out.2, eqU_if])
          generalize eqU y0 y1 y2 y3 x0 x1 x2 x3 = b1 at *
          generalize eqU z0 z1 z2 z3 x0 x1 x2 x3 = b2 at *
          clear CC
          cases b1
          all_goals
            go_wp2
            go_quiet (fail)
            clear E1 y0' y1' y2' y3'
            go_wp2
            cases b2
          all_goals
            go_quiet (fail)
            clear E2
            go_wp2
            go_roundw
            case rel => exact ⟨q + 1, by omega, by go_num, by rw [D1.out]; go_num, by rw [D2.out]; go_num, _, rfl⟩
            case measure => simp [intOf]; omega
        · obtain rfl : q = len0 := by omega
          rw [show us.take q = us from List.take_of_length_le (by rw [HL.out]; exact Nat.le_refl _), show ss.take q = ss from List.take_of_length_le (by rw [HM.out]; exact Nat.le_refl _), HP.out]
          generalize us.count (x0, x1, x2, x3) = nn at *
          have p3 : ((nn : Int) != (nn : Int)) = false := by simp
          have B3 := below_drn (Below.refl wo.heap.size wo) d
          have HX3 := Lib.hid (HX.out.trans (B3.mono HX.out.size))
          rcases Nat.eq_zero_or_pos k with hk0 | hk0
          · have p4 : decide ((0 : Int) < (k : Int)) = false := decide_eq_false (by omega)
            have p4' : decide (0 < k) = false := decide_eq_false (by omega)
            have p4'' : decide (k = 0) = true := decide_eq_true hk0
            clear HX hk0 B3
            generalize wo.drewN d = W3 at *
            go_wp2
            go_quiet (fail)
            go_wp2
            go_roundw
            case rel => exact ⟨k + 1, by omega, by go_num, below_drn HX3.out _⟩
            case measure => simp [intOf]; omega
          · obtain ⟨v0', v1', v2', v3'⟩ := CSS.out (k - 1) (by rw [HM.out]; omega)
            have HV := Lib.hid (HO.out _ (mem_at ss (k - 1) (by rw [HM.out]; omega)))
            have hp := PREV.out hk0
            have hb := block_lt_of_cell x0'
            generalize ss[k - 1]?.getD tup0 = v at *
            obtain ⟨v0, v1, v2, v3⟩ := v
            simp only at v0' v1' v2' v3'
            have KL := Lib.hid (fun W => show Calls Tryd.prog 15 #[.agg #[.int .u32 x0, .int .u32 x1, .int .u16 x2, .int .u16 x3], .agg #[.int .u32 v0, .int .u32 v1, .int .u16 v2, .int .u16 v3]] W fun e w' => e = .returned (.bool false) ∧ Below W.heap.size W w' from by
              have h := tLess_any x0 x1 x2 x3 v0 v1 v2 v3 HU.out HV.out W
              rwa [show decide (cmpU x0 x1 x2 x3 v0 v1 v2 v3 < 0) = false from decide_eq_false (by show ¬ cmpT (x0, x1, x2, x3) (v0, v1, v2, v3) < 0; omega)] at h)
            have CF := Lib.hid (fun W (b : Below (wo.drewN d).heap.size (wo.drewN d) W) => show W.cell? ⟨bs, offs + k * 4, none⟩ = some (.int .u32 x0) ∧ W.cell? ⟨bs, offs + k * 4 + 1, none⟩ = some (.int .u32 x1) ∧ W.cell? ⟨bs, offs + k * 4 + 2, none⟩ = some (.int .u16 x2) ∧ W.cell? ⟨bs, offs + k * 4 + 3, none⟩ = some (.int .u16 x3) ∧ W.cell? ⟨bs, offs + (k - 1) * 4, none⟩ = some (.int .u32 v0) ∧ W.cell? ⟨bs, offs + (k - 1) * 4 + 1, none⟩ = some (.int .u32 v1) ∧ W.cell? ⟨bs, offs + (k - 1) * 4 + 2, none⟩ = some (.int .u16 v2) ∧ W.cell? ⟨bs, offs + (k - 1) * 4 + 3, none⟩ = some (.int .u16 v3) from
              have bb := B3.trans (b.mono B3.size)
              ⟨(bb.cell (p := ⟨bs, offs + k * 4, none⟩) hb).trans x0', (bb.cell (p := ⟨bs, offs + k * 4 + 1, none⟩) hb).trans x1', (bb.cell (p := ⟨bs, offs + k * 4 + 2, none⟩) hb).trans x2', (bb.cell (p := ⟨bs, offs + k * 4 + 3, none⟩) hb).trans x3',
                (bb.cell (p := ⟨bs, offs + (k - 1) * 4, none⟩) hb).trans v0', (bb.cell (p := ⟨bs, offs + (k - 1) * 4 + 1, none⟩) hb).trans v1', (bb.cell (p := ⟨bs, offs + (k - 1) * 4 + 2, none⟩) hb).trans v2', (bb.cell (p := ⟨bs, offs + (k - 1) * 4 + 3, none⟩) hb).trans v3'⟩)
            have p4 : decide ((0 : Int) < (k : Int)) = true := decide_eq_true (by omega)
            have p4' : decide (0 < k) = true := decide_eq_true hk0
            have p4'' : decide (k = 0) = false := decide_eq_false (by omega)
            have q1 : IntKind.i64.wrap ((k : Int) - 1) = (k : Int) - 1 := IntWalk.i64_in _ (by omega)
            have q2 : (0 : Int) ≤ (k : Int) - 1 := by omega
            have q3 : ((k : Int) - 1).toNat = k - 1 := by omega
            have q4 : (k : Int) - 1 < (q : Int) := by omega
            have q5 : (0 : Int) ≤ (k : Int) := by omega
            have q6 : (k : Int) < (q : Int) := by omega
            have q7 : (k : Int) ≤ (q : Int) := by omega
            have q8 : (1 : Int) ≤ (k : Int) := by omega
            have HLT := Lib.hid hlt
            have HC := Lib.hid hl60
            clear HX hk0 B3 x0' x1' x2' x3' v0' v1' v2' v3' hp hb
            generalize wo.drewN d = W3 at *
            have n0 := (Below.refl W3.heap.size W3).drew
            go_wp2
            go_region_held3 (fun W => W.cell? ⟨bs, offs + k * 4, none⟩ = some (.int .u32 x0) ∧ W.cell? ⟨bs, offs + k * 4 + 1, none⟩ = some (.int .u32 x1) ∧ W.cell? ⟨bs, offs + k * 4 + 2, none⟩ = some (.int .u16 x2) ∧ W.cell? ⟨bs, offs + k * 4 + 3, none⟩ = some (.int .u16 x3) ∧ W.cell? ⟨bs, offs + (k - 1) * 4, none⟩ = some (.int .u32 v0) ∧ W.cell? ⟨bs, offs + (k - 1) * 4 + 1, none⟩ = some (.int .u32 v1) ∧ W.cell? ⟨bs, offs + (k - 1) * 4 + 2, none⟩ = some (.int .u16 v2) ∧ W.cell? ⟨bs, offs + (k - 1) * 4 + 3, none⟩ = some (.int .u16 v3))
              (first | with_reducible exact CF.out _ n1 | with_reducible exact CF.out _ n0)
              ((go_at_call 15; (with_reducible refine (KL.out W3.drew).mono ?_); rintro e w4 ⟨rfl, m4⟩; have n1 := n0.trans (m4.mono n0.size)))
            clear q1 q2 q3 q4 q5 q6 q7 q8 p4 p4' p4'' CF
            have HX4 := Lib.hid (HX3.out.trans (n1.mono HX3.out.size))
            clear n0 n1 m4
            go_wp2
            go_roundw
            case rel =>
              have h1 := HLT.out
              exact ⟨k + 1, by omega, by go_num, HX4.out⟩
            case measure =>
              have h1 := HLT.out
              simp [intOf]
              omega
    · obtain rfl : k = len0 := by omega
      have L1 := M1.out.trans (HX.out.mono M1.out.size)
      go_wp2_with (go_at_call 8; (with_reducible refine (TW.out _ L1).mono ?_); rintro e w3 ⟨rfl, m3⟩)
      go_ret
      exact ⟨rfl, L1.trans (m3.mono L1.size)⟩
end Go.Proofs.YtpbheonapgckfaaDoor
