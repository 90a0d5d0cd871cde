/- A new table: package table's, the document's. -/
import Derived.Test.YthgoopdekllanaaTbC
namespace Go.Proofs.Ythgoopdekllanaa
open Go.RowKit Go.Shelf
open SumM

attribute [local go_sem] Oper.semAt_some
attribute [local go_sem ↓] nm_ldT nm_ldA nm_stT
attribute [local go_sem ↓] zero_tab

/-- A new table's numbers. -/
def newT : Nat → Int := fun o => if o = 0 then 0 else if (o - 1) % 4 < 2 then -1 else 0

/-- The rows below k made. -/
def mkT (k : Nat) : Nat → Int := fun o => if o < 1 + k * 4 then newT o else 0
theorem mkT_zero : ∀ o, o < 65 → zeroT o = mkT 0 o := by
  intro o _
  unfold mkT zeroT newT
  by_cases h : o = 0
  · simp [h]
  · rw [if_neg (by omega)]
theorem mkT_full : ∀ o, o < 65 → mkT 16 o = newT o := by
  intro o ho
  unfold mkT
  rw [if_pos (by omega)]
theorem mkT_step (k : Nat) (o : Nat) : setR (mkT k) k (-1, -1, 0, 0) o = mkT (k + 1) o := by
  unfold setR upd mkT newT
  by_cases h3 : o = 1 + k * 4 + 3
  · subst h3
    rw [if_pos rfl, if_pos (by omega), if_neg (by omega), if_neg (by omega)]
  rw [if_neg h3]
  by_cases h2 : o = 1 + k * 4 + 2
  · subst h2
    rw [if_pos rfl, if_pos (by omega), if_neg (by omega), if_neg (by omega)]
  rw [if_neg h2]
  by_cases h1 : o = 1 + k * 4 + 1
  · subst h1
    rw [if_pos rfl, if_pos (by omega), if_neg (by omega), if_pos (by omega)]
  rw [if_neg h1]
  by_cases h0 : o = 1 + k * 4
  · subst h0
    rw [if_pos rfl, if_pos (by omega), if_neg (by omega), if_pos (by omega)]
  rw [if_neg h0]
  by_cases hl : o < 1 + k * 4
  · have hl2 : o < 1 + (k + 1) * 4 := by omega
    simp only [if_pos hl, if_pos hl2]
  · have hl2 : ¬ o < 1 + (k + 1) * 4 := by omega
    simp only [if_neg hl, if_neg hl2]

set_option maxRecDepth 100000 in
set_option maxHeartbeats 8000000 in
theorem r10New_any (w : World) : Calls Try.prog 40 #[] w fun e w' => e = .returned (tabV newT) ∧ Below w.heap.size w w' := by
  have bR := heap_alloc_new w (.cells (numL 65 zeroT).toArray 26)
  have bT := heap_alloc_new (w.alloc (.cells (numL 65 zeroT).toArray 26)) (.cells (numL 65 zeroT).toArray 26)
  have bR := (Below.heap_alloc _ (.cells (numL 65 zeroT).toArray 26) _ (by simp)).trans bR
  have L0 := ((Below.refl w.heap.size w).alloc (Nat.le_refl _) (.cells (numL 65 zeroT).toArray 26)).alloc (by simp) (.cells (numL 65 zeroT).toArray 26)
  rw [World.size_alloc] at bT
  go_enter Try.func40, Try.ntmps40
  go_upto_region 2 with (fail)
  generalize (w.alloc (.cells (numL 65 zeroT).toArray 26)).alloc (.cells (numL 65 zeroT).toArray 26) = W0 at *
  have HB := Lib.hid L0
  have HT := Lib.hid (nb_congr bT mkT_zero)
  have HR := Lib.hid bR
  clear L0 bT bR
  go_wp2
  go_loopw [2] (fun i wr => ∃ k : Nat, k ≤ 16 ∧ i = .int .i64 (k : Nat) ∧ Below w.heap.size w wr ∧ NB (w.heap.size + 1) 26 65 (mkT k) wr ∧ NB w.heap.size 26 65 zeroT wr) (fun i _ => 16 - (intOf i).toNat)
  case atStart => exact ⟨0, by omega, rfl, HB.out, HT.out, HR.out⟩
  case round =>
    obtain ⟨k, hk, rfl, hB, hT, hR⟩ := hrel
    have HW := Lib.hid hB
    have HR2 := Lib.hid hR
    have HT2 := Lib.hid hT
    by_cases hlt : k < 16
    · have hk1 : (k : Int) < 16 := by omega
      clear hB hR hT
      go_wp2_with fail
      refine (r9None_any wr).mono ?_
      rintro e w2 ⟨rfl, m2⟩
      have hT := nb_below HT2.out m2
      have hR := nb_below HR2.out m2
      have q := rng_row hT k hlt
      generalize rowT (mkT k) k = u at *
      obtain ⟨u0, u1, u2, u3⟩ := u
      obtain ⟨q0, q1, q2, q3⟩ := ent_of_range _ _ _ _ q
      have f0 := nb_frozen hT (1 + k * 4)
      have f1 := nb_frozen hT (1 + k * 4 + 1)
      have f2 := nb_frozen hT (1 + k * 4 + 2)
      have f3 := nb_frozen hT (1 + k * 4 + 3)
      have HS := Lib.hid (nb_row hT k (-1, -1, 0, 0))
      have HO := Lib.hid ((nb_other (b := w.heap.size + 1) (k := w.heap.size) (by omega) [.int .i64 (-1), .int .i64 (-1), .int .i64 0, .int .i64 0] (1 + k * 4) w2).trans hR)
      have HX := Lib.hid (below_setCells (w.heap.size + 1) (by omega) [.int .i64 (-1), .int .i64 (-1), .int .i64 0, .int .i64 0] (1 + k * 4) w _ (HW.out.trans (m2.mono HW.out.size)))
      clear hT hR q m2
      go_wp2
      go_roundw
      case rel => exact ⟨k + 1, by omega, by go_num, HX.out, nb_congr HS.out (fun o _ => mkT_step k o), HO.out⟩
      case measure => simp [intOf]; omega
    · obtain rfl : k = 16 := by omega
      have l0 := ld_tab (nb_congr hT mkT_full)
      have s0 := st_tab hR newT
      have HS := Lib.hid (nb_full hR newT)
      have HX := Lib.hid (below_setCells w.heap.size (Nat.le_refl _) (numL 65 newT) 0 w _ hB)
      clear hB hR hT
      go_wp2
      exact bodyPost_ret (results_cell_row rfl _ _ w.heap.size 26 _ (0, 0) _ rfl HS.out Try.undT rfl (by rw [List.size_toArray, numL_len]; exact Try.sizT)) rfl ⟨rfl, HX.out⟩

/-- While the rows are made. -/
structure NwI (w : World) (pre : List Nat) (W : World) : Prop where
  lo : Below w.heap.size w W
  tb : NB (w.heap.size + 1) 26 65 (mkT pre.length) W
  ret : NB w.heap.size 26 65 zeroT W
theorem nwI_abide (w : World) (B : Nat) (hB : w.heap.size + 2 ≤ B) : Abide3 B (NwI w) where
  new := fun _ _ o h => ⟨h.lo.alloc h.lo.size o, (Below.heap_alloc _ _ _ (nb_lt h.tb)).trans h.tb, (Below.heap_alloc _ _ _ (nb_lt h.ret)).trans h.ret⟩
  turn := fun _ _ _ _ o' h hl ho hc => ⟨h.lo.trans ⟨rfl, rfl, rfl, by simp [World.putObj], fun k hk => World.putObj_heap_other (by omega)⟩, (World.putObj_heap_other (by omega)).trans h.tb, (World.putObj_heap_other (by omega)).trans h.ret⟩

set_option maxRecDepth 100000 in
set_option maxHeartbeats 8000000 in
theorem new_in (n : Nat) (hn : 4 ≤ n) (w : World) :
    CallsIn Fence.wide n Try.prog 76 #[] w fun e w' => e = .returned (tabV newT) ∧ Below w.heap.size w w' := by
  have h1n : 1 ≤ n := by omega
  refine callsIn_of_wp_marks Try.func76 rfl trivial ?_ rfl
  simp only [Try.ntmps76, List.size_toArray, List.length_nil, Nat.reduceSub, Array.replicate_succ, Array.replicate_zero, List.push_toArray, List.append_toArray, List.nil_append, List.cons_append]
  have bR := heap_alloc_new w (.cells (numL 65 zeroT).toArray 26)
  have bT := heap_alloc_new (w.alloc (.cells (numL 65 zeroT).toArray 26)) (.cells (numL 65 zeroT).toArray 26)
  have bR := (Below.heap_alloc _ (.cells (numL 65 zeroT).toArray 26) _ (by simp)).trans bR
  have L0 := ((Below.refl w.heap.size w).alloc (Nat.le_refl _) (.cells (numL 65 zeroT).toArray 26)).alloc (by simp) (.cells (numL 65 zeroT).toArray 26)
  have hs0 : ((w.alloc (.cells (numL 65 zeroT).toArray 26)).alloc (.cells (numL 65 zeroT).toArray 26)).heap.size = w.heap.size + 2 := by simp
  have l0 := ld_tab bT
  rw [World.size_alloc] at bT l0
  gi_wp2_with fail
  generalize (w.alloc (.cells (numL 65 zeroT).toArray 26)).alloc (.cells (numL 65 zeroT).toArray 26) = W0 at *
  refine ⟨trivial, (rows_in (n - 1) zeroT W0).mono ?_⟩
  rintro e w1 ⟨rfl, rfl⟩
  have hV := heap_alloc_new W0 (.cells (numL 65 zeroT).toArray 26)
  have hsV : (W0.alloc (.cells (numL 65 zeroT).toArray 26)).heap.size = w.heap.size + 3 := by simp; omega
  have IV : NwI w [] (W0.alloc (.cells (numL 65 zeroT).toArray 26)) := ⟨L0.alloc L0.size _, (Below.heap_alloc _ _ _ (by omega)).trans (nb_congr bT mkT_zero), (Below.heap_alloc _ _ _ (by omega)).trans bR⟩
  rw [hs0] at hV ⊢
  have HI := Lib.hid IV
  clear l0 bR bT L0 hs0 IV
  gi_wp2
  generalize W0.alloc (.cells (numL 65 zeroT).toArray 26) = V at *
  refine range_ok rfl h1n (gf := 79) (lb := #[.pointer (some ⟨w.heap.size + 2, 0, none⟩)]) rfl trivial (enters_of Try.func79 (by kernel_rfl) rfl)
    (rows_ok' (n - 1) (by omega) (w.heap.size + 2) zeroT V hV) (fun _ _ _ _ _ _ h _ _ _ => h) (fun _ _ => trivial) (fun _ _ _ _ _ _ _ _ => trivial) (fun _ => rfl)
    (NwI w) (fun _ _ _ => False) (nwI_abide w _ (by omega)) (fun _ => ⟨fun _ _ _ h => h, fun _ _ _ _ _ h _ _ _ => h⟩) HI.out
    (fun i => { tmps := #[.pointer (some ⟨w.heap.size, 0, none⟩), .pointer (some ⟨w.heap.size + 1, 0, none⟩), .int .i64 (i : Nat), tabV zeroT, .func (.func 79) #[] #[.pointer (some ⟨w.heap.size + 2, 0, none⟩)], .int .i64 (i : Nat), entV (rowT zeroT i), undef, undef, undef, undef, undef], defers := [] }) ?assign ?body ?done ?stop
  case assign =>
    intro l x W K hK
    simp only [encR] at hK ⊢
    gi_wp2
    exact hK
  case stop =>
    rintro D c pre W hD _ h
    exact h.elim
  case done =>
    rintro D ys W hD rfl ⟨hb, ht, hr⟩ hK
    have l0 := ld_tab (nb_congr ht mkT_full)
    have s0 := st_tab hr newT
    have HS := Lib.hid (nb_full hr newT)
    have HX := Lib.hid (below_setCells w.heap.size (Nat.le_refl _) (numL 65 newT) 0 w _ hb)
    have HK := Lib.hid ((nb_other (b := w.heap.size) (k := D) (by omega) (numL 65 newT) 0 W).trans hK)
    have HD := Lib.hid (show w.heap.size + 3 ≤ D by omega)
    clear hb ht hr hK hD
    gi_wp2
    refine ⟨by simp, .inl ⟨_, _, rfl, run_takeDeferred HK.out, ?_⟩⟩
    refine ⟨_, results_cell_row rfl _ _ w.heap.size 26 _ (0, 0) _ rfl ((World.putObj_heap_other (by have := HD.out; omega)).trans HS.out) Try.undT rfl (by rw [List.size_toArray, numL_len]; exact Try.sizT), rfl, HX.out.trans (belowK_b (w := w) (Nat.le_refl _) _ D _ _ (by have := HD.out; omega) HK.out rfl rfl)⟩
  case body =>
    rintro l pre i W ⟨hb, ht, hr⟩ ⟨hpre, hi⟩
    subst hpre
    rw [List.length_range] at ht
    have HB := Lib.hid hb
    have HT := Lib.hid ht
    have HR := Lib.hid hr
    clear hb ht hr
    gi_wp2_with fail
    refine ⟨trivial, (fun _ => by omega), CallsIn.inRound l (callsIn_wide.2 ((eNone_any W).mono ?_))⟩
    rintro e w2 ⟨rfl, m2⟩
    have hT := nb_below HT.out m2
    have hR := nb_below HR.out m2
    have q := rng_row hT i hi
    generalize rowT (mkT i) i = u at *
    obtain ⟨u0, u1, u2, u3⟩ := u
    obtain ⟨q0, q1, q2, q3⟩ := ent_of_range _ _ _ _ q
    have f0 := nb_frozen hT (1 + i * 4)
    have f1 := nb_frozen hT (1 + i * 4 + 1)
    have f2 := nb_frozen hT (1 + i * 4 + 2)
    have f3 := nb_frozen hT (1 + i * 4 + 3)
    have HS := Lib.hid (nb_row hT i (-1, -1, 0, 0))
    have HO := Lib.hid ((nb_other (b := w.heap.size + 1) (k := w.heap.size) (by omega) [.int .i64 (-1), .int .i64 (-1), .int .i64 0, .int .i64 0] (1 + i * 4) w2).trans hR)
    have HX := Lib.hid (below_setCells (w.heap.size + 1) (by omega) [.int .i64 (-1), .int .i64 (-1), .int .i64 0, .int .i64 0] (1 + i * 4) w _ (HB.out.trans (m2.mono HB.out.size)))
    have o := Lib.hid (others_setCells (w.heap.size + 1) [.int .i64 (-1), .int .i64 (-1), .int .i64 0, .int .i64 0] (1 + i * 4) w2)
    have HM := Lib.hid m2
    clear hT hR q m2
    gi_wp2
    refine ⟨⟨Nat.le_trans HM.out.size o.out.size, fun k o' _ hk ho => o.out.same k o' ((HM.out.block k (Array.getElem?_eq_some_iff.1 hk).1).trans hk) ho⟩, trivial, HX.out, ?_, HO.out⟩
    rw [List.length_append, List.length_range]
    exact nb_congr HS.out (fun o _ => mkT_step i o)

theorem new_any (w : World) : Calls Try.prog 76 #[] w fun e w' => e = .returned (tabV newT) ∧ Below w.heap.size w w' :=
  callsIn_wide.1 (new_in 4 (by omega) w)
end Go.Proofs.Ythgoopdekllanaa
