/- SheetWhole, walked. -/
import Derived.Test.YtiaikacfdbcmmaaShW
import Derived.Test.YtiaikacfdbcmmaaShZ
import Derived.Test.YtiaikacfdbcmmaaShX
import Derived.Test.YtiaikacfdbcmmaaTbL
import Derived.Deep.RegionHeldLaw
namespace Go.Proofs.Ytiaikacfdbcmmaa
open Go.RowKit Go.Shelf
open SumM
attribute [local go_sem] Oper.semAt_some zero_tab
attribute [local go_sem ↓] nm_ldT nm_stT

theorem cellAt {W : World} {g : Nat} {cur : Array Value} {t : TypeId} {r : Nat × Nat} (h : W.heap[g]? = some (.cells cur t r)) (o : Nat) : W.cell? ⟨g, o, none⟩ = cur[o]? := by simp [World.cell?, h]
theorem ShOwn.slice {x y : Int} {rs : List SR} {n : Nat} (hl : rs.length = n) {w w' : World} {e : Ending} (h : ShOwn x y rs w e w') : ∃ S c, e = .returned (.agg #[.int .i64 x, .int .i64 y, .slice S n c]) ∧ w'.ownsRow w.heap.size 48 5 (.slice S n c) n (flatS rowC rs) ∧ Below w.heap.size w w' := by
  obtain ⟨v, h1, h2, h3⟩ := h
  simp only [hl] at h2
  obtain ⟨S, c, rfl, _, _, _⟩ := ownS_slice h2
  exact ⟨S, c, h1, h2, h3⟩
set_option maxRecDepth 100000 in
set_option maxHeartbeats 16000000 in
theorem shWhole_walk (T : Nat → Int) (ba tv : Int) (sa : Option Addr) (sn sc : Nat) (rs : List SR) (w : World) (_ : TabOk T) (h0 : IsSh w sa sn sc rs) :
    Calls Try.prog 7 #[tabV T, .agg #[.int .i64 ba, .int .i64 tv, .slice sa sn sc]] w fun e w' => e = .returned (.bool true) ∧ Below w.heap.size w w' := by
  have WKS := Lib.hid (fun W => wakes_any W)
  have RS := Lib.hid (fun W (m : Below w.heap.size w W) => (h0.row.below m).more m.size)
  have HL := Lib.hid (And.intro h0.hl (And.intro h0.hn h0.hc))
  clear h0
  have HB := Lib.hid (show Below w.heap.size w ((w.alloc (.cells (numL 65 T).toArray 26)).alloc (.cells #[.int .i64 ba, .int .i64 tv, .slice sa sn sc] 29)) ∧ NB w.heap.size 26 65 T ((w.alloc (.cells (numL 65 T).toArray 26)).alloc (.cells #[.int .i64 ba, .int .i64 tv, .slice sa sn sc] 29)) ∧ ((w.alloc (.cells (numL 65 T).toArray 26)).alloc (.cells #[.int .i64 ba, .int .i64 tv, .slice sa sn sc] 29)).heap[w.heap.size + 1]? = some (.cells #[.int .i64 ba, .int .i64 tv, .slice sa sn sc] 29 (0, 0)) from
    ⟨((Below.refl w.heap.size w).alloc (Nat.le_refl _) _).alloc (by simp) _, blkN (heap_alloc_new w _) _, newN _ _ _ (by simp)⟩)
  obtain ⟨q0, q1, q2⟩ := sh_cells _ _ _ _ _ HB.out.2.2
  go_enter Try.func7, Try.ntmps7
  go_upto_region 1 with fail
  generalize ((w.alloc (.cells (numL 65 T).toArray 26)).alloc (.cells #[.int .i64 ba, .int .i64 tv, .slice sa sn sc] 29)) = W0 at *
  have KG := Lib.hid (great_any ba tv sa sn sc W0)
  by_cases hb1 : 40 < sn
  · rw [show decide ((40 : Int) < (sn : Int)) = true from decide_eq_true (by omega)] at KG
    go_wp2_with (first
      | (go_at_call 8; (with_reducible refine KG.out.mono ?_); rintro e w1 ⟨rfl, m1⟩)
      | (go_at_call 9; (with_reducible refine (WKS.out _).mono ?_); rintro e w9 ⟨rfl, m9⟩))
    go_ret
    exact ⟨rfl, HB.out.1.trans ((m1.trans (m9.mono m1.size)).mono HB.out.1.size)⟩
  rw [show decide ((40 : Int) < (sn : Int)) = false from decide_eq_false (by omega)] at KG
  have HS := Lib.hid (show sn ≤ 40 by omega)
  clear hb1
  go_wp2_with fail
  refine KG.out.mono ?_
  rintro e w1 ⟨rfl, m1⟩
  have HB1 := Lib.hid (show Below w.heap.size w w1 ∧ NB w.heap.size 26 65 T w1 ∧ w1.heap[w.heap.size + 1]? = some (.cells #[.int .i64 ba, .int .i64 tv, .slice sa sn sc] 29 (0, 0)) from ⟨HB.out.1.trans (m1.mono HB.out.1.size), nb_below HB.out.2.1 m1, bb HB.out.2.2 m1⟩)
  clear q0 q1 q2 m1 HB KG
  obtain ⟨q0, q1, q2⟩ := sh_cells _ _ _ _ _ HB1.out.2.2
  have KO := Lib.hid (r11Own_any ba tv sa sn sc rs HL.out.1 (by have := HS.out; omega) HL.out.2.1 w1 (RS.out w1 HB1.out.1))
  go_wp2_with fail
  refine KO.out.mono ?_
  rintro e w2 hr
  obtain ⟨S1, c1, rfl, O2, m2⟩ := hr.slice HL.out.1
  have M2 := m2.trans (((Below.refl w2.heap.size w2).alloc (Nat.le_refl _) (.cells #[.int .i64 ba, .int .i64 tv, .slice S1 sn c1] 29)).mono m2.size)
  have HB2 := Lib.hid (show Below w.heap.size w (w2.alloc (.cells #[.int .i64 ba, .int .i64 tv, .slice S1 sn c1] 29)) ∧ NB w.heap.size 26 65 T (w2.alloc (.cells #[.int .i64 ba, .int .i64 tv, .slice S1 sn c1] 29)) ∧ (w2.alloc (.cells #[.int .i64 ba, .int .i64 tv, .slice S1 sn c1] 29)).heap[w.heap.size + 1]? = some (.cells #[.int .i64 ba, .int .i64 tv, .slice sa sn sc] 29 (0, 0)) ∧ (w2.alloc (.cells #[.int .i64 ba, .int .i64 tv, .slice S1 sn c1] 29)).heap[w2.heap.size]? = some (.cells #[.int .i64 ba, .int .i64 tv, .slice S1 sn c1] 29 (0, 0)) ∧ (w2.alloc (.cells #[.int .i64 ba, .int .i64 tv, .slice S1 sn c1] 29)).ownsRow w.heap.size 48 5 (.slice S1 sn c1) sn (flatS rowC rs) from
    ⟨HB1.out.1.trans (M2.mono HB1.out.1.size), nb_below HB1.out.2.1 M2, bb HB1.out.2.2 M2, heap_alloc_new w2 _, ownS_below (ownS_base O2 HB1.out.1.size) ((Below.refl w2.heap.size w2).alloc (Nat.le_refl _) _)⟩)
  clear q0 q1 q2 m2 M2 O2 KO HB1 hr
  have zz := heap_alloc_new w2 (.cells #[.int .i64 0, .int .i64 0, .slice none 0 0] 29)
  obtain ⟨z0, z1, z2⟩ := sh_cells _ _ _ _ _ zz
  have f0 := sh_frozen zz 0
  have f1 := sh_frozen zz 1
  have f2 := sh_frozen zz 2
  clear zz
  go_upto_region 4 with fail
  clear z0 z1 z2 f0 f1 f2
  generalize w2.alloc (.cells #[.int .i64 ba, .int .i64 tv, .slice S1 sn c1] 29) = W2 at *
  generalize w2.heap.size = b5 at *
  obtain ⟨q0, q1, q2⟩ := sh_cells _ _ _ _ _ HB2.out.2.2.1
  have KO := Lib.hid (sOwn_any ba tv sa sn sc rs HL.out.1 (by have := HS.out; omega) HL.out.2.1 W2 (RS.out W2 HB2.out.1))
  go_wp2_with fail
  refine KO.out.mono ?_
  rintro e w3 hr
  obtain ⟨S2, c2, rfl, O3, m3⟩ := hr.slice HL.out.1
  have M3 := m3.trans (((Below.refl w3.heap.size w3).alloc (Nat.le_refl _) (.cells #[.int .i64 ba, .int .i64 tv, .slice S2 sn c2] 29)).mono m3.size)
  have HB3 := Lib.hid (show Below w.heap.size w (w3.alloc (.cells #[.int .i64 ba, .int .i64 tv, .slice S2 sn c2] 29)) ∧ NB w.heap.size 26 65 T (w3.alloc (.cells #[.int .i64 ba, .int .i64 tv, .slice S2 sn c2] 29)) ∧ (w3.alloc (.cells #[.int .i64 ba, .int .i64 tv, .slice S2 sn c2] 29)).heap[w.heap.size + 1]? = some (.cells #[.int .i64 ba, .int .i64 tv, .slice sa sn sc] 29 (0, 0)) ∧ (w3.alloc (.cells #[.int .i64 ba, .int .i64 tv, .slice S2 sn c2] 29)).heap[b5]? = some (.cells #[.int .i64 ba, .int .i64 tv, .slice S1 sn c1] 29 (0, 0)) ∧ (w3.alloc (.cells #[.int .i64 ba, .int .i64 tv, .slice S2 sn c2] 29)).ownsRow w.heap.size 48 5 (.slice S1 sn c1) sn (flatS rowC rs) ∧ (w3.alloc (.cells #[.int .i64 ba, .int .i64 tv, .slice S2 sn c2] 29)).heap[w3.heap.size]? = some (.cells #[.int .i64 ba, .int .i64 tv, .slice S2 sn c2] 29 (0, 0)) ∧ (w3.alloc (.cells #[.int .i64 ba, .int .i64 tv, .slice S2 sn c2] 29)).ownsRow W2.heap.size 48 5 (.slice S2 sn c2) sn (flatS rowC rs) ∧ w.heap.size ≤ W2.heap.size from
    ⟨HB2.out.1.trans (M3.mono HB2.out.1.size), nb_below HB2.out.2.1 M3, bb HB2.out.2.2.1 M3, bb HB2.out.2.2.2.1 M3, ownS_below HB2.out.2.2.2.2 M3, heap_alloc_new w3 _, ownS_below O3 ((Below.refl w3.heap.size w3).alloc (Nat.le_refl _) _), HB2.out.1.size⟩)
  have HR3 := Lib.hid (SRow.of_own rowC_len (by decide) HB2.out.2.2.2.2)
  have HLT := Lib.hid (show w3.heap.size ≥ W2.heap.size from m3.size)
  have HM3 := Lib.hid M3
  clear q0 q1 q2 m3 M3 O3 KO hr
  have zz := heap_alloc_new w3 (.cells #[.int .i64 0, .int .i64 0, .slice none 0 0] 29)
  obtain ⟨z0, z1, z2⟩ := sh_cells _ _ _ _ _ zz
  have f0 := sh_frozen zz 0
  have f1 := sh_frozen zz 1
  have f2 := sh_frozen zz 2
  clear zz
  go_upto_region 5 with fail
  clear z0 z1 z2 f0 f1 f2
  generalize w3.alloc (.cells #[.int .i64 ba, .int .i64 tv, .slice S2 sn c2] 29) = W3 at *
  generalize w3.heap.size = b6 at *
  have hS2 : 0 < sn → ∃ g cur, S2 = some ⟨g, 0, none⟩ ∧ W2.heap.size ≤ g ∧ g ≠ b6 ∧ W3.heap[g]? = some (.cells cur 48 (0, 0)) ∧ ∀ j, j < sn → ∃ v, cur[j * 5]? = some (.int .i64 v) := by
    intro h0
    have hO := HB3.out.2.2.2.2.2.2.1
    obtain ⟨bs, os, hbs, _⟩ := sr_addr (SRow.of_own rowC_len (by decide) hO) (by rw [HL.out.1]; exact h0)
    rcases hO.2 with ⟨_, h1⟩ | ⟨g, cap, cur, hv, hb, hg, _⟩
    · omega
    · have hS : S2 = some ⟨g, 0, none⟩ := by injection hv
      rw [hS] at hbs
      injection hbs with hbs
      injection hbs with e1 e2
      subst e1 e2
      refine ⟨g, cur, hS, hb, ?_, hg, fun j hj => ?_⟩
      · rintro rfl
        rw [HB3.out.2.2.2.2.2.1] at hg
        injection hg with hg
        injection hg with _ h2
        cases h2
      · obtain ⟨x0, _⟩ := sr_at (hS ▸ SRow.of_own rowC_len (by decide) hO : SRow5 _ W3 (some ⟨g, 0, none⟩) rs) j (by rw [HL.out.1]; exact hj)
        rw [cellAt hg] at x0
        exact ⟨_, by simpa using x0⟩
  have HS2 := Lib.hid hS2
  have HBB := Lib.hid HB3.out.2.2.2.2.2.1
  clear hS2 HB3 HR3
  go_wp2_with fail
  go_loopw [7] (fun i V => ∃ k : Nat, k ≤ sn ∧ i = .int .i64 (k : Nat) ∧ Below W2.heap.size W2 V ∧ V.heap[b6]? = some (.cells #[.int .i64 ba, .int .i64 tv, .slice S2 sn c2] 29 (0, 0)) ∧ (0 < sn → ∃ g cur, S2 = some ⟨g, 0, none⟩ ∧ W2.heap.size ≤ g ∧ g ≠ b6 ∧ V.heap[g]? = some (.cells cur 48 (0, 0)) ∧ ∀ j, j < sn → ∃ v, cur[j * 5]? = some (.int .i64 v))) (fun i _ => sn - (intOf i).toNat)
  case atStart => exact ⟨0, Nat.zero_le _, rfl, HM3.out, HBB.out, HS2.out⟩
  case round =>
    obtain ⟨k, hk, rfl, hI⟩ := hrel
    have HI := Lib.hid hI
    clear hI
    obtain ⟨q0, q1, q2⟩ := sh_cells _ _ _ _ _ HI.out.2.1
    by_cases hlt : k < sn
    · obtain ⟨g, cur, rfl, hgb, hg6, hg, hcell⟩ := HI.out.2.2 (by omega)
      obtain ⟨v, hv⟩ := hcell k hlt
      have c0 : wr.cell? ⟨g, k * 5, none⟩ = some (.int .i64 v) := (cellAt hg _).trans hv
      have f0 := sh_frozen2 hg (k * 5)
      have hsn := HS.out
      have g5 : (k : Int) < (sn : Int) := by omega
      have g6 : (0 : Int) ≤ (k : Int) := by omega
      have hw1 : IntKind.i64.wrap ((k : Int) + 1) = ((k + 1 : Nat) : Int) := by rw [IntWalk.i64_in _ (by omega)]; omega
      have HG := Lib.hid (And.intro hgb (And.intro hg6 (And.intro hg hcell)))
      clear hgb hg6 hg hcell hv
      go_wp2_with fail
      go_region_with (fail)
      go_wp2
      all_goals
        refine ⟨⟨k + 1, by omega, by simp, (show Below W2.heap.size W2 (wr.setCell ⟨g, k * 5, none⟩ _).drew from (HI.out.1.setCell (p := ⟨g, k * 5, none⟩) HG.out.1 _).drew), (show (wr.setCell ⟨g, k * 5, none⟩ _).heap[b6]? = _ from (Below.heap_setCell _ _ _ _ (by simpa using HG.out.2.1.symm)).trans HI.out.2.1), fun _ => ⟨g, _, rfl, HG.out.1, HG.out.2.1, (show (wr.setCell ⟨g, k * 5, none⟩ _).heap[g]? = _ from heap_setCell_same wr g (k * 5) cur _ _ HG.out.2.2.1), fun j hj => ?_⟩⟩, ?_⟩
        · by_cases hjk : j = k
          · subst hjk
            obtain ⟨v', hv'⟩ := HG.out.2.2.2 j hj
            exact ⟨_, by rw [Array.getElem?_setIfInBounds_self_of_lt (Array.getElem?_eq_some_iff.1 hv').1]⟩
          · rw [Array.getElem?_setIfInBounds_ne (by omega)]
            exact HG.out.2.2.2 j hj
        · simp [intOf]
          omega
    · have hkn : k = sn := by omega
      have q3 : decide ((k : Int) < (sn : Int)) = false := decide_eq_false (by omega)
      have HB4 := Lib.hid (show Below w.heap.size w wr ∧ NB w.heap.size 26 65 T wr ∧ wr.heap[w.heap.size + 1]? = some (.cells #[.int .i64 ba, .int .i64 tv, .slice sa sn sc] 29 (0, 0)) ∧ wr.heap[b5]? = some (.cells #[.int .i64 ba, .int .i64 tv, .slice S1 sn c1] 29 (0, 0)) ∧ wr.ownsRow w.heap.size 48 5 (.slice S1 sn c1) sn (flatS rowC rs) from
        ⟨HB2.out.1.trans (HI.out.1.mono HB2.out.1.size), nb_below HB2.out.2.1 HI.out.1, bb HB2.out.2.2.1 HI.out.1, bb HB2.out.2.2.2.1 HI.out.1, ownS_below HB2.out.2.2.2.2 HI.out.1⟩)
      have KS := Lib.hid (r11Same_any ba tv sa sn sc ba tv S1 sn c1 rs rs HL.out.1 (by have := HS.out; omega) HL.out.1 (by have := HS.out; omega) wr (RS.out wr HB4.out.1) (SRow.of_own rowC_len (by decide) HB4.out.2.2.2.2))
      rw [show smS ba tv rs ba tv rs = true from decide_eq_true ⟨rfl, rfl, rfl⟩] at KS
      obtain ⟨r0, r1, r2⟩ := sh_cells _ _ _ _ _ HB4.out.2.2.1
      obtain ⟨s0, s1, s2⟩ := sh_cells _ _ _ _ _ HB4.out.2.2.2.1
      clear HI HS2 HM3 HBB
      go_wp2_with fail
      refine KS.out.mono ?_
      rintro e w4 ⟨rfl, m4⟩
      have HB5 := Lib.hid (show Below w.heap.size w w4 ∧ NB w.heap.size 26 65 T w4 from ⟨HB4.out.1.trans (m4.mono HB4.out.1.size), nb_below HB4.out.2.1 m4⟩)
      clear r0 r1 r2 s0 s1 s2 q0 q1 q2 m4 HB4 KS HB2
      obtain ⟨⟨xx, yy, us, zz⟩, hq⟩ : ∃ r, ofS T = r := ⟨_, rfl⟩
      have KO := Lib.hid (hq ▸ sOf_any T w4)
      have HQ := Lib.hid hq
      clear hq
      generalize hnn : us.length = n3 at *
      have HN := Lib.hid hnn
      clear hnn
      have l1 := ld_tab HB5.out.2
      go_wp2_with fail
      refine KO.out.mono ?_
      rintro e w5 hr
      obtain ⟨S3, c3, rfl, hc0, hc1, O5, m5⟩ := hr.slice HN.out
      have M5 := m5.trans (((Below.refl w5.heap.size w5).alloc (Nat.le_refl _) (.cells #[.int .i64 xx, .int .i64 yy, .slice S3 n3 c3] 29)).mono m5.size)
      have HB6 := Lib.hid (show Below w.heap.size w (w5.alloc (.cells #[.int .i64 xx, .int .i64 yy, .slice S3 n3 c3] 29)) ∧ NB w.heap.size 26 65 T (w5.alloc (.cells #[.int .i64 xx, .int .i64 yy, .slice S3 n3 c3] 29)) ∧ (w5.alloc (.cells #[.int .i64 xx, .int .i64 yy, .slice S3 n3 c3] 29)).heap[w5.heap.size]? = some (.cells #[.int .i64 xx, .int .i64 yy, .slice S3 n3 c3] 29 (0, 0)) ∧ (w5.alloc (.cells #[.int .i64 xx, .int .i64 yy, .slice S3 n3 c3] 29)).ownsRow w.heap.size 48 5 (.slice S3 n3 c3) n3 (flatS rowC us) from
        ⟨HB5.out.1.trans (M5.mono HB5.out.1.size), nb_below HB5.out.2 M5, heap_alloc_new w5 _, ownS_below (ownS_base O5 HB5.out.1.size) ((Below.refl w5.heap.size w5).alloc (Nat.le_refl _) _)⟩)
      clear m5 O5 hc0 hc1 M5 HB5 l1 hr KO
      have zzz := heap_alloc_new w5 (.cells #[.int .i64 0, .int .i64 0, .slice none 0 0] 29)
      obtain ⟨z0, z1, z2⟩ := sh_cells _ _ _ _ _ zzz
      have f0 := sh_frozen zzz 0
      have f1 := sh_frozen zzz 1
      have f2 := sh_frozen zzz 2
      clear zzz
      go_upto_region 12 with fail
      clear z0 z1 z2 f0 f1 f2
      generalize w5.alloc (.cells #[.int .i64 xx, .int .i64 yy, .slice S3 n3 c3] 29) = W5 at *
      generalize w5.heap.size = b8 at *
      have l1 := ld_tab HB6.out.2.1
      obtain ⟨gT, hgT⟩ : ∃ g, rgT T = g := ⟨_, rfl⟩
      have KR := Lib.hid (hgT ▸ r10Right_any T W5)
      go_wp2_with fail
      refine KR.out.mono ?_
      rintro e w6 ⟨rfl, m6⟩
      have HB7 := Lib.hid (show Below w.heap.size w w6 ∧ NB w.heap.size 26 65 T w6 ∧ w6.heap[b8]? = some (.cells #[.int .i64 xx, .int .i64 yy, .slice S3 n3 c3] 29 (0, 0)) ∧ w6.ownsRow w.heap.size 48 5 (.slice S3 n3 c3) n3 (flatS rowC us) from
        ⟨HB6.out.1.trans (m6.mono HB6.out.1.size), nb_below HB6.out.2.1 m6, bb HB6.out.2.2.1 m6, ownS_below HB6.out.2.2.2 m6⟩)
      clear m6 HB6 l1 KR
      have hq := HQ.out
      unfold ofS at hq
      rw [hgT] at hq
      clear HQ
      obtain ⟨q0, q1, q2⟩ := sh_cells _ _ _ _ _ HB7.out.2.2.1
      cases gT
      · rw [if_neg (by decide)] at hq
        simp only [Prod.mk.injEq] at hq
        obtain ⟨rfl, rfl, rfl, rfl⟩ := hq
        have hn0 : n3 = 0 := by have := HN.out; simpa using this.symm
        subst hn0
        go_wp2_with (first
          | (go_at_call 9; (with_reducible refine (WKS.out _).mono ?_); rintro e w9 ⟨rfl, m9⟩))
        go_ret
        exact ⟨rfl, HB7.out.1.trans (m9.mono HB7.out.1.size)⟩
      · rw [if_pos rfl] at hq
        simp only [Prod.mk.injEq] at hq
        obtain ⟨rfl, rfl, hus, rfl⟩ := hq
        subst hus
        have hn16 : n3 = 16 := by rw [← HN.out, allS_len]
        subst hn16
        have HOK := Lib.hid (shOk_all hgT)
        have t0 := nb_cell HB7.out.2.1 (show 0 < 65 by omega)
        have hne : ((T 0) != (T 0)) = false := by simp
        go_wp2_with fail
        go_loopw [10] (fun i V => ∃ k : Nat, k ≤ 16 ∧ i = .int .i64 (k : Nat) ∧ Below w6.heap.size w6 V) (fun i _ => 16 - (intOf i).toNat)
        case atStart => exact ⟨0, by omega, rfl, Below.refl _ _⟩
        case round =>
          obtain ⟨k2, hk2, rfl, hI⟩ := hrel
          have HI := Lib.hid hI
          clear hI q0 q1 q2 t0
          have hbx := bb HB7.out.2.2.1 HI.out
          obtain ⟨q0, q1, q2⟩ := sh_cells _ _ _ _ _ hbx
          have hO := ownS_below HB7.out.2.2.2 HI.out
          by_cases hl2 : k2 < 16
          · obtain ⟨bs, os, rfl, hbs⟩ := sr_addr (SRow.of_own rowC_len (by decide) hO) (by rw [allS_len]; omega)
            obtain ⟨x0, x1, x2, x3, x4⟩ := sr_at (SRow.of_own rowC_len (by decide) hO) k2 (by rw [allS_len]; exact hl2)
            rw [allS_get T hl2] at x0 x1 x2 x3 x4
            obtain ⟨c0, c1', c2', c3'⟩ := nb_cells4 (nb_below HB7.out.2.1 HI.out) k2 hl2
            simp only [rowT] at x0 x1 x2 x3 x4
            generalize T (1 + k2 * 4) = t0 at *
            generalize T (1 + k2 * 4 + 1) = t1 at *
            generalize T (1 + k2 * 4 + 2) = t2 at *
            generalize T (1 + k2 * 4 + 3) = t3 at *
            have g5 : (k2 : Int) < 16 := by omega
            have g6 : (0 : Int) ≤ (k2 : Int) := by omega
            have hw1 : IntKind.i64.wrap ((k2 : Int) + 1) = ((k2 + 1 : Nat) : Int) := by rw [IntWalk.i64_in _ (by omega)]; omega
            clear hO hbx
            go_wp2_with fail
            go_quiet (fail)
            go_wp2
            refine ⟨⟨k2 + 1, by omega, rfl, below_dN HI.out nq⟩, ?_⟩
            simp [intOf]
            omega
          · have hk16 : k2 = 16 := by omega
            have q3 : decide ((k2 : Int) < 16) = false := decide_eq_false (by omega)
            have KR2 := Lib.hid (sRight_any (-1) (T 0) S3 16 c3 (allS T) (allS_len T) (by omega) wr (SRow.of_own rowC_len (by decide) hO))
            rw [HOK.out] at KR2
            have HLO := Lib.hid (HB7.out.1.trans (HI.out.mono HB7.out.1.size))
            clear HI hO hbx hk16
            go_wp2_with (first
              | (go_at_call 20; (with_reducible refine KR2.out.mono ?_); rintro e w8 ⟨rfl, m8⟩)
              | (go_at_call 9; (with_reducible refine (WKS.out _).mono ?_); rintro e w9 ⟨rfl, m9⟩))
            go_ret
            exact ⟨rfl, HLO.out.trans ((m8.trans (m9.mono m8.size)).mono HLO.out.size)⟩
end Go.Proofs.Ytiaikacfdbcmmaa
