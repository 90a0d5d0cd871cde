/- 'handfastlaw08.HashByte' returns true at every tuple, place and byte, and leaves what lay as it lay. -/
import Derived.Test.YtklmlpnccbmpnaaHsW
namespace Go.Proofs.Ytklmlpnccbmpnaa
open Go.RowKit Go.Shelf
open SumM

theorem int_beq_comm (a b : Int) : (a == b) = (b == a) := by
  rw [Bool.eq_iff_iff]
  simp only [beq_iff_eq]
  exact eq_comm

set_option maxRecDepth 100000 in
set_option maxHeartbeats 16000000 in
theorem hByte_walk (ts td tp tq : Int) (at0 : Int) (c : Int) (w : World) (H : UNums ts td tp tq) (_ : (Lit.int .i64 at0).wf = true) (hc0 : (Lit.int .u8 c).wf = true) :
    Calls Try.prog 6 #[.agg #[.int .u32 ts, .int .u32 td, .int .u16 tp, .int .u16 tq], .int .i64 at0, .int .u8 c] w fun e w' => e = .returned (.bool true) ∧ Below w.heap.size w w' := by
  have hc := wf_u8.1 hc0
  have bU := heap_alloc_new w (.cells #[.int .u32 ts, .int .u32 td, .int .u16 tp, .int .u16 tq] 26)
  have L0 := (Below.refl w.heap.size w).alloc (Nat.le_refl _) (.cells #[.int .u32 ts, .int .u32 td, .int .u16 tp, .int .u16 tq] 26)
  obtain ⟨q0, q1, q2, q3⟩ := tup_cells _ _ _ _ bU
  have HH := Lib.hid H
  clear H hc0
  go_enter Try.func6, Try.ntmps6
  go_upto_region 1 with (fail)
  generalize w.alloc (.cells #[.int .u32 ts, .int .u32 td, .int .u16 tp, .int .u16 tq] 26) = W0 at *
  go_wp2_with (fail)
  refine (r4Bytes_any ts td tp tq HH.out W0).mono ?_
  intro e w1 h1
  unfold RowN at h1
  obtain ⟨A1, c1, rfl, O1, m1⟩ := h1
  have L1 := L0.trans (m1.mono L0.size)
  have bU1 := (m1.block _ (Array.getElem?_eq_some_iff.1 bU).1).trans bU
  have z0 := (Array.getElem?_eq_some_iff.1 bU).1
  have z1 := L0.size
  clear q0 q1 q2 q3 bU L0
  obtain ⟨g, rfl, hg, _⟩ := own_addr O1 (by decide)
  obtain ⟨m', q, hq1, hq2, hq3, ⟨hq4, hq5⟩, hq⟩ := at_mod at0 12 (by omega) (by omega)
  rw [show ((12 : Nat) : Int) = 12 from rfl] at hq1 hq4 hq5
  have hin := tupB_in ts td tp tq
  have hE := Lib.hid (goS_set (tupB ts td tp tq) hin (s := 0) (by decide) hc q (by rw [tupB_length]; exact hq))
  have hF := Lib.hid (tupB_length ts td tp tq)
  have hS := Lib.hid (show sumU ts td tp tq = goS 0 (tupB ts td tp tq) from rfl)
  have hv1 := own_cell O1 q hq
  have hw1 := O1.frozenAt q
  have i1 : (q : Int) < 12 := by omega
  have i0 : (0 : Int) ≤ (q : Int) := by omega
  have hvin := getD_in hin (by decide) q
  generalize tupB ts td tp tq = bs at *
  obtain ⟨v, hvd⟩ : ∃ v, bs[q]?.getD 0 = v := ⟨_, rfl⟩
  rw [hvd] at hv1 hvin
  have hx := xr_in hvin hc
  go_upto_region 4 with (fail)
  obtain ⟨x, hxd⟩ : ∃ x, bits .xor .u8 v c = x := ⟨_, rfl⟩
  have hxe : xr v c = x := hxd
  rw [hxe] at hx
  rw [hxd]
  have O2 := own_store O1 q x
  have L2 := L1.setCell (p := ⟨g, q, none⟩) (by simp; omega) (.int .u8 x)
  have bU2 := (heap_setCell_other w1 ⟨g, q, none⟩ w.heap.size (.int .u8 x) (by simp; omega)).trans bU1
  have hin2 := in_set hin q x hx
  have R2 := Row.of_own O2 (in_wf8 hin2)
  have C2 := own_cap O2
  have hl2 : (bs.set q x).length = 12 := by rw [List.length_set, hF.out]
  have hE2 : goS 0 (bs.set q x) = goS 0 bs ↔ c = 0 := by
    have h := hE.out
    rw [hvd, hxe] at h
    exact h
  have K := r4Take_any (some ⟨g, 0, none⟩) 12 c1 (bs.set q x) hl2 C2.1 _ R2
  have F1 := takeF_ok (bs.set q x) hin2
  have F2 := tupB_takeF hin2 hl2
  obtain ⟨⟨f1, f2, f3, f4⟩, hfd⟩ : ∃ f, takeF (bs.set q x) = f := ⟨_, rfl⟩
  rw [hfd] at K F1 F2
  simp only at K F1 F2
  have hsu : sumU f1 f2 f3 f4 = goS 0 (bs.set q x) := by rw [← F2]; rfl
  have pA : ((sumU ts td tp tq == sumU f1 f2 f3 f4) == (c == 0)) = true := by
    rw [hS.out, hsu]
    by_cases h : c = 0
    · have h2 := hE2.2 h
      rw [h2]
      simp [h]
    · have h2 : ¬ goS 0 bs = goS 0 (bs.set q x) := fun h3 => h (hE2.1 h3.symm)
      have h3 : (goS 0 bs == goS 0 (bs.set q x)) = false := by simpa using h2
      have h4 : (c == 0) = false := by simpa using h
      rw [h3, h4]
      rfl
  have hkt := ofU_in ts td tp tq
  have pB : decide (0 ≤ ofU ts td tp tq) = true := decide_eq_true hkt.1
  have pC : decide (ofU ts td tp tq < 16) = true := decide_eq_true (by omega)
  have pD : ((ofU ts td tp tq == ofU f1 f2 f3 f4) == (ofU f1 f2 f3 f4 == ofU ts td tp tq)) = true := by
    rw [show (ofU ts td tp tq == ofU f1 f2 f3 f4) = (ofU f1 f2 f3 f4 == ofU ts td tp tq) from int_beq_comm _ _]
    simp
  have K1 := Lib.hid K
  have HF := Lib.hid F1
  generalize w1.setCell ⟨g, q, none⟩ (.int .u8 x) = w2 at *
  clear hq1 hq2 hq3 hq4 hq5 hv1 hw1 O1 O2 hin hin2 R2 C2 hl2 hE hE2 F1 F2 hsu hS hF hfd hvd hxe hxd hvin hx hkt hg m1 L1 bU1 K i1 i0
  go_wp2_with (fail)
  refine K1.out.mono ?_
  rintro e w3 ⟨rfl, m3⟩
  have L3 := L2.trans (m3.mono L2.size)
  have bU3 := (m3.block _ (Array.getElem?_eq_some_iff.1 bU2).1).trans bU2
  clear K1 m3 L2 bU2
  go_upto_region 5 with (fail)
  have bQ := heap_alloc_new w3 (.cells #[.int .u32 f1, .int .u32 f2, .int .u16 f3, .int .u16 f4] 26)
  have bU4 := (Below.heap_alloc w3 (.cells #[.int .u32 f1, .int .u32 f2, .int .u16 f3, .int .u16 f4] 26) w.heap.size (Array.getElem?_eq_some_iff.1 bU3).1).trans bU3
  have L4 := L3.alloc L3.size (.cells #[.int .u32 f1, .int .u32 f2, .int .u16 f3, .int .u16 f4] 26)
  clear L3 bU3
  generalize w3.alloc (.cells #[.int .u32 f1, .int .u32 f2, .int .u16 f3, .int .u16 f4] 26) = W4 at *
  generalize w3.heap.size = bq at *
  obtain ⟨q0, q1, q2, q3⟩ := tup_cells _ _ _ _ bU4
  go_wp2_with (fail)
  refine (hOf_any ts td tp tq HH.out W4).mono ?_
  rintro e w5 ⟨rfl, m5⟩
  have bU5 := (m5.block _ (Array.getElem?_eq_some_iff.1 bU4).1).trans bU4
  have bQ5 := (m5.block _ (Array.getElem?_eq_some_iff.1 bQ).1).trans bQ
  have L5 := L4.trans (m5.mono L4.size)
  clear m5 L4 bU4 bQ q0 q1 q2 q3
  go_upto_region 6 with (fail)
  have CS := Lib.hid (fun W (m : Below w5.heap.size w5 W) => And.intro (tup_cells _ _ _ _ ((m.block _ (Array.getElem?_eq_some_iff.1 bU5).1).trans bU5)) (tup_cells _ _ _ _ ((m.block _ (Array.getElem?_eq_some_iff.1 bQ5).1).trans bQ5)))
  have CT := Lib.hid (fun W (m : Below w5.heap.size w5 W) => show W.cell? ⟨w.heap.size, 0, none⟩ = some (.int .u32 ts) ∧ W.cell? ⟨w.heap.size, 1, none⟩ = some (.int .u32 td) ∧ W.cell? ⟨w.heap.size, 2, none⟩ = some (.int .u16 tp) ∧ W.cell? ⟨w.heap.size, 3, none⟩ = some (.int .u16 tq) ∧ W.cell? ⟨bq, 0, none⟩ = some (.int .u32 f1) ∧ W.cell? ⟨bq, 1, none⟩ = some (.int .u32 f2) ∧ W.cell? ⟨bq, 2, none⟩ = some (.int .u16 f3) ∧ W.cell? ⟨bq, 3, none⟩ = some (.int .u16 f4) from
    ⟨(CS.out W m).1.1, (CS.out W m).1.2.1, (CS.out W m).1.2.2.1, (CS.out W m).1.2.2.2, (CS.out W m).2.1, (CS.out W m).2.2.1, (CS.out W m).2.2.2.1, (CS.out W m).2.2.2.2⟩)
  have n0 := (Below.refl w5.heap.size w5).drew
  clear CS bU5 bQ5
  go_region_held3 (fun W => W.cell? ⟨w.heap.size, 0, none⟩ = some (.int .u32 ts) ∧ W.cell? ⟨w.heap.size, 1, none⟩ = some (.int .u32 td) ∧ W.cell? ⟨w.heap.size, 2, none⟩ = some (.int .u16 tp) ∧ W.cell? ⟨w.heap.size, 3, none⟩ = some (.int .u16 tq) ∧ W.cell? ⟨bq, 0, none⟩ = some (.int .u32 f1) ∧ W.cell? ⟨bq, 1, none⟩ = some (.int .u32 f2) ∧ W.cell? ⟨bq, 2, none⟩ = some (.int .u16 f3) ∧ W.cell? ⟨bq, 3, none⟩ = some (.int .u16 f4))
    (first | with_reducible exact CT.out _ n5 | with_reducible exact CT.out _ n4 | with_reducible exact CT.out _ n3 | with_reducible exact CT.out _ n2 | with_reducible exact CT.out _ n1 | with_reducible exact CT.out _ n0)
    (first
      | (go_at_call 21; (with_reducible refine (hSum_any ts td tp tq HH.out w5.drew).mono ?_); rintro e v1 ⟨rfl, j1⟩; have n1 := n0.trans (j1.mono n0.size))
      | (go_at_call 21; (with_reducible refine (hSum_any f1 f2 f3 f4 HF.out v1).mono ?_); rintro e v2 ⟨rfl, j2⟩; have n2 := n1.trans (j2.mono n1.size))
      | (go_at_call 24; (with_reducible refine (hSame_any ts td tp tq f1 f2 f3 f4 HH.out HF.out v2).mono ?_); rintro e v3 ⟨rfl, j3⟩; have n3 := n2.trans (j3.mono n2.size))
      | (go_at_call 23; (with_reducible refine (hOf_any f1 f2 f3 f4 HF.out v3).mono ?_); rintro e v4 ⟨rfl, j4⟩; have n4 := n3.trans (j4.mono n3.size))
      | (go_at_call 9; (with_reducible refine (hwakes_any v4).mono ?_); rintro e v5 ⟨rfl, j5⟩; have n5 := n4.trans (j5.mono n4.size)))
  all_goals
    have L6 := L5.trans (n5.mono L5.size)
    go_wp2
    go_ret
    exact ⟨rfl, L6⟩
end Go.Proofs.Ytklmlpnccbmpnaa
