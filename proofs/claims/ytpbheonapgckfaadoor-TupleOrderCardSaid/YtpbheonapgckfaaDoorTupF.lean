/- The document's own answers on tuples: Sorted. -/
import Derived.Test.YtpbheonapgckfaaDoorTupE
namespace Go.Proofs.YtpbheonapgckfaaDoor
open Go.RowKit Go.Shelf
open SumM

theorem trow_new (w : World) (t : TypeId) (u : Tup) (h : Tup.ok u) : TRow (w.heap.size + 1) (w.alloc (.cells #[.int .u32 u.1, .int .u32 u.2.1, .int .u16 u.2.2.1, .int .u16 u.2.2.2] t)) (some ⟨w.heap.size, 0, none⟩) [u] := by
  refine ⟨by simpa using h, fun _ => ⟨w.heap.size, 0, rfl, by omega, fun j hj => ?_⟩⟩
  obtain rfl : j = 0 := by simpa using hj
  refine ⟨?_, ?_, ?_, ?_⟩ <;> (rw [cell_of_row _ _ _ _ _ _ (heap_alloc_new w _)]; rfl)

theorem kOf_pos (u : Tup) (us : List Tup) (m : Nat) (hm : 0 < m) : kOf u us m = if cmpT u (us[m - 1]?.getD tup0) < 0 then kOf u us (m - 1) else m := by
  obtain ⟨k, rfl⟩ : ∃ k, m = k + 1 := ⟨m - 1, by omega⟩
  rfl
theorem trow_at {B : Nat} {w : World} {g : Nat} {us : List Tup} (h : TRow B w (some ⟨g, 0, none⟩) us) (j : Nat) (hj : j < us.length) :
    w.cell? ⟨g, j * 4, none⟩ = some (.int .u32 (us[j]?.getD tup0).1) ∧ w.cell? ⟨g, j * 4 + 1, none⟩ = some (.int .u32 (us[j]?.getD tup0).2.1) ∧
    w.cell? ⟨g, j * 4 + 2, none⟩ = some (.int .u16 (us[j]?.getD tup0).2.2.1) ∧ w.cell? ⟨g, j * 4 + 3, none⟩ = some (.int .u16 (us[j]?.getD tup0).2.2.2) := by
  obtain ⟨b, off, e, _, hc⟩ := h.2 (by omega)
  injection e with e
  injection e with e1 e2
  subst e1 e2
  simpa using hc j hj

theorem trow_drop0 {B : Nat} {w : World} {g : Nat} {us : List Tup} (h : TRow B w (some ⟨g, 0, none⟩) us) (i : Nat) : TRow B w (some ⟨g, i * 4, none⟩) (us.drop i) := by
  have := h.drop i
  rwa [Nat.zero_add] at this

set_option maxRecDepth 100000 in
set_option maxHeartbeats 4000000 in
theorem r4Sorted_any (a : Option Addr) (len cap : Nat) (us : List Tup) (w : World) (h : TRow w.heap.size w a us) (hl : us.length = len) (hs : len ≤ 1000) :
    Calls Tryd.prog 23 #[.slice a len cap] w fun e w' => ∃ A c, e = .returned (.slice A len c) ∧ w'.ownsRow w.heap.size 25 4 (.slice A len c) len (flatT (sortT us)) ∧ Below w.heap.size w w' := by
  obtain ⟨i0, hi, hz0, hz1, hz2⟩ := info_parts Tryd.infoTup4
  have HL := Lib.hid hl
  have HR := Lib.hid h
  clear hl h
  go_enter Tryd.func23, Tryd.ntmps23
  go_wp2
  go_loopw [3, 4] (fun s i wr => ∃ k : Nat, k ≤ len ∧ i = .int .i64 k ∧ wr.ownsRow w.heap.size 25 4 s k (flatT (sortT (us.take k))) ∧ Below w.heap.size w wr ∧ (k = 0 → s = .slice none 0 0))
    (fun _ i _ => len - (intOf i).toNat)
  case atStart => exact ⟨0, Nat.zero_le _, rfl, World.ownsRow_nil _ _ _ _, Below.refl _ _, fun _ => rfl⟩
  case round =>
    obtain ⟨k, hk, rfl, hown, hnx, hnil⟩ := hrel
    have HN := Lib.hid hnil
    clear hnil
    have HW := Lib.hid hown
    have HX := Lib.hid hnx
    clear hown hnx
    by_cases hlt : k < len
    · have hO : (sortT (us.take k)).length = k := by rw [sortT_length]; simp; rw [HL.out]; omega
      have HO := Lib.hid hO
      have HS := Lib.hid (sortT_snoc us k (by rw [HL.out]; exact hlt))
      obtain ⟨b1, off1, rfl, hb1, hc1⟩ := HR.out.2 (by rw [HL.out]; omega)
      have HC := Lib.hid (hc1 k (by rw [HL.out]; omega))
      have HU := Lib.hid (HR.out.1 (us[k]?.getD tup0) (by rw [List.getElem?_eq_getElem (by rw [HL.out]; exact hlt)]; simp))
      have HOK := Lib.hid (sortT_ok (us := us.take k) (fun u hu => HR.out.1 u (List.mem_of_mem_take hu)))
      have HB1 := Lib.hid hb1
      clear hc1 hO hb1
      generalize us[k]?.getD tup0 = u at *
      generalize sortT (us.take k) = O at *
      obtain ⟨u0, u1, u2, u3⟩ := u
      rcases Nat.eq_zero_or_pos k with hk0 | hk0
      · have hs0 := HN.out hk0
        have hO0 : O = [] := List.eq_nil_of_length_eq_zero (by rw [HO.out]; exact hk0)
        have BB : Below w.heap.size w wr := HX.out
        subst hs0 hO0 hk0
        clear HN HOK HW HO
        have HS' := Lib.hid (show flatT ([] ++ [(u0, u1, u2, u3)]) = flatT (sortT (us.take 1)) by rw [show us.take 1 = us.take (0 + 1) from rfl, HS.out]; rfl)
        clear HS
        go_wp2
        generalize wr = wo at *
        go_loopw [5] (fun j wi => j = .int .i64 0 ∧ Below wo.heap.size wo wi) (fun _ _ => 0)
        case atStart => exact ⟨rfl, Below.refl _ _⟩
        case round =>
          obtain ⟨rfl, hB⟩ := hrel
          have p0 : decide ((0 : Int) < 0) = false := by decide
          have CL := Lib.hid (fun W (b : Below wr.heap.size wr W) => show W.cell? ⟨b1, off1 + 0 * 4, none⟩ = some (.int .u32 u0) ∧ W.cell? ⟨b1, off1 + 0 * 4 + 1, none⟩ = some (.int .u32 u1) ∧ W.cell? ⟨b1, off1 + 0 * 4 + 2, none⟩ = some (.int .u16 u2) ∧ W.cell? ⟨b1, off1 + 0 * 4 + 3, none⟩ = some (.int .u16 u3) from
            have b0 := BB.trans (hB.mono BB.size)
            have bb := b0.trans (b.mono b0.size)
            ⟨(bb.cell (p := ⟨b1, off1 + 0 * 4, none⟩) HB1.out).trans HC.out.1, (bb.cell (p := ⟨b1, off1 + 0 * 4 + 1, none⟩) HB1.out).trans HC.out.2.1, (bb.cell (p := ⟨b1, off1 + 0 * 4 + 2, none⟩) HB1.out).trans HC.out.2.2.1, (bb.cell (p := ⟨b1, off1 + 0 * 4 + 3, none⟩) HB1.out).trans HC.out.2.2.2⟩)
          simp only [Nat.zero_mul, Nat.add_zero] at CL
          go_wp2
          go_quiet (fail)
          have HZ := Lib.hid (below_drn hB nq)
          have CZ := Lib.hid (fun W (b : Below (wr.drewN nq).heap.size (wr.drewN nq) W) => CL.out W ((below_drn (Below.refl wr.heap.size wr) nq).trans b))
          generalize wr.drewN nq = wz at *
          clear CL hB p0
          have bz := Below.refl wz.heap.size wz
          go_wp2_with (first
            | (at_builtin; refine wpList_append_trow _ rfl _ _ 27 rfl wz.heap.size 25 i0 _ 12 Tryd.underlying27 hi hz0 hz1 hz2 rfl (.slice none 0 0) 0 [] rfl (World.ownsRow_nil _ _ _ _) wz.heap.size none 0 0 [] rfl rfl (TRow.nil _ _ _) (fun _ => rfl) (by unfold maxLen; omega) (by omega) (Nat.le_refl _) ?_; intro v1 w1 O1 hg1; have B1 := bz.grown hg1 (Nat.le_refl _) (fun j e => by cases e); obtain ⟨x0, x1, x2, x3⟩ := CZ.out w1 B1)
            | (at_builtin; refine wpList_append_trow _ rfl _ _ 27 rfl wz.heap.size 25 i0 _ 12 Tryd.underlying27 hi hz0 hz1 hz2 rfl v1 (0 + 0) ([] ++ []) rfl (O1.alloc _) (w1.heap.size + 1) (some ⟨w1.heap.size, 0, none⟩) 1 1 [(u0, u1, u2, u3)] rfl rfl (trow_new w1 _ (u0, u1, u2, u3) HU.out) (fun h => by cases h) (by unfold maxLen; omega) (by omega) (by have := B1.size; simp; omega) ?_; intro v2 w2 O2 hg2; have B2 := (B1.alloc B1.size _).grown hg2 (by have := B1.size; simp; omega) (fun j e => (O1.lt j e).1))
            | (at_builtin; refine wpList_append_trow _ rfl _ _ 27 rfl wz.heap.size 25 i0 _ 12 Tryd.underlying27 hi hz0 hz1 hz2 rfl v2 (0 + 0 + 1) ([] ++ [] ++ [(u0, u1, u2, u3)]) rfl O2 wz.heap.size none 0 0 [] rfl rfl (TRow.nil _ _ _) (fun _ => rfl) (by unfold maxLen; omega) (by omega) B2.size ?_; intro v3 w3 O3 hg3; have B3 := B2.grown hg3 B2.size (fun j e => (O2.lt j e).1)))
          have EQ : flatT ([] ++ [] ++ [(u0, u1, u2, u3)] ++ []) = flatT (sortT (us.take 1)) := HS'.out
          rw [EQ] at O3
          have B0 : Below w.heap.size w wz := BB.trans (HZ.out.mono BB.size)
          exact ⟨⟨1, by omega, rfl, own4_base O3 B0.size, B0.trans (B3.mono B0.size), fun h => by cases h⟩, by simp [intOf]; omega⟩
      · obtain ⟨g, c, rfl, hg, hkc, hcm⟩ := own4_form HW.out hk0
        have hkc' : (k : Int) ≤ (c : Int) := by omega
        go_wp2
        generalize wr = wo at *
        go_loopw [5] (fun j wi => ∃ m : Nat, m ≤ k ∧ j = .int .i64 m ∧ kOf (u0, u1, u2, u3) O m = kOf (u0, u1, u2, u3) O k ∧ Below wo.heap.size wo wi) (fun j _ => (intOf j).toNat)
        case atStart => exact ⟨k, Nat.le_refl _, rfl, rfl, Below.refl _ _⟩
        case round =>
          obtain ⟨m, hm, rfl, hkm, hB⟩ := hrel
          have HM := Lib.hid hkm
          have HY := Lib.hid hB
          clear hkm hB
          have BB : Below w.heap.size w wr := HX.out.trans (HY.out.mono HX.out.size)
          have OW := Lib.hid (own4_below HW.out HY.out)
          have R0 := Lib.hid (TRow.of_own OW.out HOK.out)
          have CL := Lib.hid (fun W (b : Below wr.heap.size wr W) => show W.cell? ⟨b1, off1 + k * 4, none⟩ = some (.int .u32 u0) ∧ W.cell? ⟨b1, off1 + k * 4 + 1, none⟩ = some (.int .u32 u1) ∧ W.cell? ⟨b1, off1 + k * 4 + 2, none⟩ = some (.int .u16 u2) ∧ W.cell? ⟨b1, off1 + k * 4 + 3, none⟩ = some (.int .u16 u3) from
            have bb := BB.trans (b.mono BB.size)
            ⟨(bb.cell (p := ⟨b1, off1 + k * 4, none⟩) HB1.out).trans HC.out.1, (bb.cell (p := ⟨b1, off1 + k * 4 + 1, none⟩) HB1.out).trans HC.out.2.1, (bb.cell (p := ⟨b1, off1 + k * 4 + 2, none⟩) HB1.out).trans HC.out.2.2.1, (bb.cell (p := ⟨b1, off1 + k * 4 + 3, none⟩) HB1.out).trans HC.out.2.2.2⟩)
          have STOP : Hid (m = 0 ∨ (0 < m ∧ ¬ cmpT (u0, u1, u2, u3) (O[m - 1]?.getD tup0) < 0) → kOf (u0, u1, u2, u3) O k = m) := Lib.hid (fun hh => by
            rw [← HM.out]
            rcases hh with rfl | ⟨h1, h2⟩
            · rfl
            · rw [kOf_pos _ _ _ h1, if_neg h2])
          have GO : Hid (0 < m → cmpT (u0, u1, u2, u3) (O[m - 1]?.getD tup0) < 0 → kOf (u0, u1, u2, u3) O (m - 1) = kOf (u0, u1, u2, u3) O k) := Lib.hid (fun h1 h2 => by
            rw [← HM.out, kOf_pos _ _ _ h1, if_pos h2])
          rcases Nat.eq_zero_or_pos m with hm0 | hm0
          case' inl =>
            have hst := STOP.out (.inl hm0)
            have HST := Lib.hid hst
            have p0 : decide ((0 : Int) < (m : Int)) = false := decide_eq_false (by omega)
            have p0' : decide (0 < m) = false := decide_eq_false (by omega)
            have p0'' : decide (m = 0) = true := decide_eq_true hm0
            clear hst hm0
            go_wp2
            go_quiet (fail)
            have HZ := Lib.hid (below_drn HY.out nq)
            have OZ := Lib.hid (show (wr.drewN nq).ownsRow w.heap.size 25 4 (.slice (some ⟨g, 0, none⟩) k c) k (flatT O) from OW.out)
            have RZ := Lib.hid (show TRow (wr.drewN nq).heap.size (wr.drewN nq) (some ⟨g, 0, none⟩) O from R0.out)
            have CZ := Lib.hid (fun W (b : Below (wr.drewN nq).heap.size (wr.drewN nq) W) => CL.out W ((below_drn (Below.refl wr.heap.size wr) nq).trans b))
            generalize wr.drewN nq = wz at *
          case' inr =>
            obtain ⟨y0, y1, y2, y3⟩ := trow_at R0.out (m - 1) (by rw [HO.out]; omega)
            have HV := Lib.hid (HOK.out (O[m - 1]?.getD tup0) (by rw [List.getElem?_eq_getElem (by rw [HO.out]; omega)]; simp))
            have hgw := Lib.hid (block_lt_of_cell y0)
            generalize O[m - 1]?.getD tup0 = vv at *
            obtain ⟨v0, v1, v2, v3⟩ := vv
            have CB := Lib.hid (fun W (b : Below wr.heap.size wr W) => And.intro (CL.out W b) (show W.cell? ⟨g, (m - 1) * 4, none⟩ = some (.int .u32 v0) ∧ W.cell? ⟨g, (m - 1) * 4 + 1, none⟩ = some (.int .u32 v1) ∧ W.cell? ⟨g, (m - 1) * 4 + 2, none⟩ = some (.int .u16 v2) ∧ W.cell? ⟨g, (m - 1) * 4 + 3, none⟩ = some (.int .u16 v3) from
              ⟨(b.cell (p := ⟨g, (m - 1) * 4, none⟩) hgw.out).trans y0, (b.cell (p := ⟨g, (m - 1) * 4 + 1, none⟩) hgw.out).trans y1, (b.cell (p := ⟨g, (m - 1) * 4 + 2, none⟩) hgw.out).trans y2, (b.cell (p := ⟨g, (m - 1) * 4 + 3, none⟩) hgw.out).trans y3⟩))
            have CF := Lib.hid (fun W (b : Below wr.heap.size wr W) => show W.cell? ⟨b1, off1 + k * 4, none⟩ = some (.int .u32 u0) ∧ W.cell? ⟨b1, off1 + k * 4 + 1, none⟩ = some (.int .u32 u1) ∧ W.cell? ⟨b1, off1 + k * 4 + 2, none⟩ = some (.int .u16 u2) ∧ W.cell? ⟨b1, off1 + k * 4 + 3, none⟩ = some (.int .u16 u3) ∧ W.cell? ⟨g, (m - 1) * 4, none⟩ = some (.int .u32 v0) ∧ W.cell? ⟨g, (m - 1) * 4 + 1, none⟩ = some (.int .u32 v1) ∧ W.cell? ⟨g, (m - 1) * 4 + 2, none⟩ = some (.int .u16 v2) ∧ W.cell? ⟨g, (m - 1) * 4 + 3, none⟩ = some (.int .u16 v3) from
              ⟨(CB.out W b).1.1, (CB.out W b).1.2.1, (CB.out W b).1.2.2.1, (CB.out W b).1.2.2.2, (CB.out W b).2.1, (CB.out W b).2.2.1, (CB.out W b).2.2.2.1, (CB.out W b).2.2.2.2⟩)
            clear y0 y1 y2 y3 CB
            have p0 : decide ((0 : Int) < (m : Int)) = true := decide_eq_true (by omega)
            have p0' : decide (0 < m) = true := decide_eq_true hm0
            have p0'' : decide (m = 0) = false := decide_eq_false (by omega)
            have q1 : IntKind.i64.wrap ((m : Int) - 1) = (m : Int) - 1 := IntWalk.i64_in _ (by omega)
            have q2 : (0 : Int) ≤ (m : Int) - 1 := by omega
            have q3 : ((m : Int) - 1).toNat = m - 1 := by omega
            have q4 : (m : Int) - 1 < (k : Int) := by omega
            have q5 : (0 : Int) ≤ (k : Int) := by omega
            have q6 : (k : Int) < (len : Int) := by omega
            have HM0 := Lib.hid hm0
            have HMK := Lib.hid hm
            have HLT := Lib.hid hlt
            obtain ⟨cu, hcu⟩ : ∃ cu, cmpT (u0, u1, u2, u3) (v0, v1, v2, v3) = cu := ⟨_, rfl⟩
            rw [hcu] at STOP GO
            have KL := Lib.hid (show Calls Tryd.prog 16 #[.agg #[.int .u32 u0, .int .u32 u1, .int .u16 u2, .int .u16 u3], .agg #[.int .u32 v0, .int .u32 v1, .int .u16 v2, .int .u16 v3]] wr.drew fun e w' => e = .returned (.bool (decide (cu < 0))) ∧ Below wr.drew.heap.size wr.drew w' from hcu ▸ r4Less_any u0 u1 u2 u3 v0 v1 v2 v3 HU.out HV.out wr.drew)
            have n0 := (Below.refl wr.heap.size wr).drew
            have q7 : (m : Int) ≤ (k : Int) := by omega
            have q8 : (1 : Int) ≤ (m : Int) := by omega
            clear hcu BB
            go_wp2
            go_region_held3 (fun W => W.cell? ⟨b1, off1 + k * 4, none⟩ = some (.int .u32 u0) ∧ W.cell? ⟨b1, off1 + k * 4 + 1, none⟩ = some (.int .u32 u1) ∧ W.cell? ⟨b1, off1 + k * 4 + 2, none⟩ = some (.int .u16 u2) ∧ W.cell? ⟨b1, off1 + k * 4 + 3, none⟩ = some (.int .u16 u3) ∧ W.cell? ⟨g, (m - 1) * 4, none⟩ = some (.int .u32 v0) ∧ W.cell? ⟨g, (m - 1) * 4 + 1, none⟩ = some (.int .u32 v1) ∧ W.cell? ⟨g, (m - 1) * 4 + 2, none⟩ = some (.int .u16 v2) ∧ W.cell? ⟨g, (m - 1) * 4 + 3, none⟩ = some (.int .u16 v3))
              (first | with_reducible exact CF.out _ n1 | with_reducible exact CF.out _ n0)
              ((go_at_call 16; (with_reducible refine KL.out.mono ?_); rintro e w1 ⟨rfl, m1⟩; have n1 := n0.trans (m1.mono n0.size)))
            clear p0 p0' p0'' q1 q2 q3 q4 q5 q6 q7 q8 CF
            by_cases hc : cu < 0
            case pos =>
              have hd : decide (cu < 0) = true := decide_eq_true hc
              have HGO := Lib.hid (GO.out HM0.out hc)
              rw [hd]
              have HZ := Lib.hid (HY.out.trans (n1.mono HY.out.size))
              clear hc hd n0 n1 m1
              go_wp2
              go_roundw
              case rel =>
                have a1 := HM0.out
                have a2 := HMK.out
                have a3 := HLT.out
                exact ⟨m - 1, by omega, congrArg (Value.int .i64) (by omega), HGO.out, HZ.out⟩
              case measure =>
                have a1 := HM0.out
                have a2 := HMK.out
                have a3 := HLT.out
                simp [intOf]
                omega
            have hd : decide (cu < 0) = false := decide_eq_false hc
            have HST := Lib.hid (STOP.out (.inr ⟨HM0.out, by omega⟩))
            rw [hd]
            have HZ := Lib.hid (HY.out.trans (n1.mono HY.out.size))
            have OZ := Lib.hid (own4_below OW.out n1)
            have RZ := Lib.hid ((R0.out.below n1).more n1.size)
            have CZ := Lib.hid (fun W (b : Below w1.heap.size w1 W) => CL.out W (n1.trans (b.mono n1.size)))
            clear hc hd n0 n1 m1
            generalize w1 = wz at *
          all_goals
            clear HY OW R0 CL STOP GO HM
            have LT := Lib.hid (show (O.take m).length = m by have := HO.out; simp; omega)
            have LD := Lib.hid (show (O.drop m).length = k - m by have := HO.out; simp; omega)
            have hmc : (m : Int) ≤ (c : Int) := by omega
            have hmk : (m : Int) ≤ (k : Int) := by omega
            have bz := Below.refl wz.heap.size wz
            have RD : Hid (c = m → O.drop m = []) := Lib.hid (fun e => List.eq_nil_of_length_eq_zero (by rw [LD.out]; omega))
            by_cases hcc : c = m
            case' pos =>
              have RE := Lib.hid (RD.out hcc)
              go_wp2_with (first
                | (at_builtin; refine wpList_append_trow _ rfl _ _ 27 rfl wz.heap.size 25 i0 _ 12 Tryd.underlying27 hi hz0 hz1 hz2 rfl (.slice none 0 0) 0 [] rfl (World.ownsRow_nil _ _ _ _) wz.heap.size (some ⟨g, 0, none⟩) m _ (O.take m) rfl LT.out (RZ.out.take m) (fun h => by cases h) (by unfold maxLen; omega) (by omega) (Nat.le_refl _) ?_; intro v1 w1 O1 hg1; have B1 := bz.grown hg1 (Nat.le_refl _) (fun j e => by cases e); obtain ⟨x0, x1, x2, x3⟩ := CZ.out w1 B1)
                | (at_builtin; refine wpList_append_trow _ rfl _ _ 27 rfl wz.heap.size 25 i0 _ 12 Tryd.underlying27 hi hz0 hz1 hz2 rfl v1 (0 + m) ([] ++ O.take m) rfl (O1.alloc _) (w1.heap.size + 1) (some ⟨w1.heap.size, 0, none⟩) 1 1 [(u0, u1, u2, u3)] rfl rfl (trow_new w1 _ (u0, u1, u2, u3) HU.out) (fun h => by cases h) (by unfold maxLen; omega) (by omega) (by have := B1.size; simp; omega) ?_; intro v2 w2 O2 hg2; have B2 := (B1.alloc B1.size _).grown hg2 (by have := B1.size; simp; omega) (fun j e => (O1.lt j e).1))
                | (at_builtin; refine wpList_append_trow _ rfl _ _ 27 rfl wz.heap.size 25 i0 _ 12 Tryd.underlying27 hi hz0 hz1 hz2 rfl v2 (0 + m + 1) ([] ++ O.take m ++ [(u0, u1, u2, u3)]) rfl O2 wz.heap.size _ (k - m) _ (O.drop m) rfl LD.out (by rw [RE.out]; exact TRow.nil _ _ _) (fun h => by cases h) (by unfold maxLen; omega) (by omega) B2.size ?_; intro v3 w3 O3 hg3; have B3 := B2.grown hg3 B2.size (fun j e => (O2.lt j e).1)))
            case' neg =>
              go_wp2_with (first
                | (at_builtin; refine wpList_append_trow _ rfl _ _ 27 rfl wz.heap.size 25 i0 _ 12 Tryd.underlying27 hi hz0 hz1 hz2 rfl (.slice none 0 0) 0 [] rfl (World.ownsRow_nil _ _ _ _) wz.heap.size (some ⟨g, 0, none⟩) m _ (O.take m) rfl LT.out (RZ.out.take m) (fun h => by cases h) (by unfold maxLen; omega) (by omega) (Nat.le_refl _) ?_; intro v1 w1 O1 hg1; have B1 := bz.grown hg1 (Nat.le_refl _) (fun j e => by cases e); obtain ⟨x0, x1, x2, x3⟩ := CZ.out w1 B1)
                | (at_builtin; refine wpList_append_trow _ rfl _ _ 27 rfl wz.heap.size 25 i0 _ 12 Tryd.underlying27 hi hz0 hz1 hz2 rfl v1 (0 + m) ([] ++ O.take m) rfl (O1.alloc _) (w1.heap.size + 1) (some ⟨w1.heap.size, 0, none⟩) 1 1 [(u0, u1, u2, u3)] rfl rfl (trow_new w1 _ (u0, u1, u2, u3) HU.out) (fun h => by cases h) (by unfold maxLen; omega) (by omega) (by have := B1.size; simp; omega) ?_; intro v2 w2 O2 hg2; have B2 := (B1.alloc B1.size _).grown hg2 (by have := B1.size; simp; omega) (fun j e => (O1.lt j e).1))
                | (at_builtin; refine wpList_append_trow _ rfl _ _ 27 rfl wz.heap.size 25 i0 _ 12 Tryd.underlying27 hi hz0 hz1 hz2 rfl v2 (0 + m + 1) ([] ++ O.take m ++ [(u0, u1, u2, u3)]) rfl O2 wz.heap.size _ (k - m) _ (O.drop m) rfl LD.out ((trow_drop0 RZ.out m).below B2) (fun h => by cases h) (by unfold maxLen; omega) (by omega) B2.size ?_; intro v3 w3 O3 hg3; have B3 := B2.grown hg3 B2.size (fun j e => (O2.lt j e).1)))
            all_goals
              have EQ : flatT ([] ++ O.take m ++ [(u0, u1, u2, u3)] ++ O.drop m) = flatT (sortT (us.take (k + 1))) := by
                rw [HS.out]
                unfold insT
                rw [HO.out, HST.out]
                simp
              have EN : 0 + m + 1 + (k - m) = k + 1 := by omega
              rw [EQ, EN] at O3
              have B0 : Below w.heap.size w wz := HX.out.trans (HZ.out.mono HX.out.size)
              exact ⟨⟨k + 1, by omega, by go_num, own4_base O3 B0.size, B0.trans (B3.mono B0.size), fun h => by cases h⟩, by simp [intOf]; omega⟩
    · obtain rfl : k = len := by omega
      obtain ⟨A, c, rfl⟩ : ∃ A c, u3 = .slice A k c := by
        rcases HW.out.2 with ⟨rfl, rfl⟩ | ⟨g, c, _, rfl, _⟩
        · exact ⟨_, _, rfl⟩
        · exact ⟨_, _, rfl⟩
      have HE := Lib.hid (show us.take k = us from List.take_of_length_le (by rw [HL.out]; exact Nat.le_refl _))
      go_wp2
      go_ret
      exact ⟨A, c, rfl, by have := HW.out; rwa [HE.out] at this, HX.out⟩
end Go.Proofs.YtpbheonapgckfaaDoor
