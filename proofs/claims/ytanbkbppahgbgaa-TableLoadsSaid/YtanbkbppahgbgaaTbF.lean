/- Loads of all backends: package table's, the document's. -/
import Derived.Test.YtanbkbppahgbgaaTbD
namespace Go.Proofs.Ytanbkbppahgbgaa
open Go.RowKit Go.Shelf
open SumM

attribute [local go_sem] Oper.semAt_some zero_tab build_tab guard_undef
attribute [local go_sem ↓] nm_ldT nm_ldA nm_ldN nm_stT nm_stN

/-- The loads by the rows below k. -/
def lodT (T : Nat → Int) : Nat → Nat → Int
  | 0 => zeroT
  | k + 1 => if 0 ≤ (rowT T k).1 ∧ (rowT T k).1 < 6 then upd (lodT T k) (rowT T k).1.toNat (lodT T k (rowT T k).1.toNat + 1) else lodT T k
theorem lodT_in (T : Nat → Int) : ∀ (k c : Nat), 0 ≤ lodT T k c ∧ lodT T k c ≤ k
  | 0, _ => by simp [lodT, zeroT]
  | k + 1, c => by
    have h := lodT_in T k c
    have h2 := lodT_in T k (rowT T k).1.toNat
    unfold lodT
    split
    · unfold upd
      split
      · omega
      · omega
    · omega
theorem lodT_yes {T : Nat → Int} {k j : Nat} (h : (rowT T k).1 = (j : Int)) (hj : j < 6) : lodT T (k + 1) = upd (lodT T k) j (lodT T k j + 1) := by
  rw [lodT, if_pos (by omega), h]
  rfl
theorem lodT_no {T : Nat → Int} {k : Nat} (h : ¬ (0 ≤ (rowT T k).1 ∧ (rowT T k).1 < 6)) : lodT T (k + 1) = lodT T k := by
  rw [lodT, if_neg h]

abbrev numsV (L : Nat → Int) : Value := .agg (numL 6 L).toArray

set_option maxRecDepth 100000 in
set_option maxHeartbeats 8000000 in
theorem r10Loads_any (T : Nat → Int) (w : World) : Calls Try.prog 17 #[tabV T] w fun e w' => e = .returned (numsV (lodT T 16)) ∧ Below w.heap.size w w' := by
  have bT := heap_alloc_new w (.cells (numL 65 T).toArray 26)
  have LT := (Below.refl w.heap.size w).alloc (Nat.le_refl _) (.cells (numL 65 T).toArray 26)
  have hs1 : (w.alloc (.cells (numL 65 T).toArray 26)).heap.size = w.heap.size + 1 := by simp
  go_enter Try.func17, Try.ntmps17
  go_upto_region 2 with (fail)
  generalize w.alloc (.cells (numL 65 T).toArray 26) = Wa at *
  have bR : NB (w.heap.size + 1) 34 6 zeroT (Wa.alloc (.cells #[.int .i64 0, .int .i64 0, .int .i64 0, .int .i64 0, .int .i64 0, .int .i64 0] 34)) := hs1 ▸ heap_alloc_new Wa (.cells (numL 6 zeroT).toArray 34)
  have bT := (Below.heap_alloc Wa (.cells #[.int .i64 0, .int .i64 0, .int .i64 0, .int .i64 0, .int .i64 0, .int .i64 0] 34) _ (by omega)).trans bT
  have LE := LT.alloc LT.size (.cells #[.int .i64 0, .int .i64 0, .int .i64 0, .int .i64 0, .int .i64 0, .int .i64 0] 34)
  have hs2 : (Wa.alloc (.cells #[.int .i64 0, .int .i64 0, .int .i64 0, .int .i64 0, .int .i64 0, .int .i64 0] 34)).heap.size = w.heap.size + 2 := by simp; omega
  generalize Wa.alloc (.cells #[.int .i64 0, .int .i64 0, .int .i64 0, .int .i64 0, .int .i64 0, .int .i64 0] 34) = Wb at *
  have bL : NB (w.heap.size + 2) 34 6 zeroT (Wb.alloc (.cells #[.int .i64 0, .int .i64 0, .int .i64 0, .int .i64 0, .int .i64 0, .int .i64 0] 34)) := hs2 ▸ heap_alloc_new Wb (.cells (numL 6 zeroT).toArray 34)
  have bT := (Below.heap_alloc Wb (.cells #[.int .i64 0, .int .i64 0, .int .i64 0, .int .i64 0, .int .i64 0, .int .i64 0] 34) _ (by omega)).trans bT
  have bR := (Below.heap_alloc Wb (.cells #[.int .i64 0, .int .i64 0, .int .i64 0, .int .i64 0, .int .i64 0, .int .i64 0] 34) _ (by omega)).trans bR
  have L0 := LE.alloc LE.size (.cells #[.int .i64 0, .int .i64 0, .int .i64 0, .int .i64 0, .int .i64 0, .int .i64 0] 34)
  generalize Wb.alloc (.cells #[.int .i64 0, .int .i64 0, .int .i64 0, .int .i64 0, .int .i64 0, .int .i64 0] 34) = W0 at *
  have HB := Lib.hid L0
  have HT := Lib.hid bT
  have HR := Lib.hid bR
  have HL := Lib.hid bL
  clear L0 LE LT hs1 hs2 bT bR bL
  go_wp2
  go_loopw [4, 5] (fun i _ wr => ∃ k : Nat, k ≤ 16 ∧ i = .int .i64 (k : Nat) ∧ Below w.heap.size w wr ∧ NB (w.heap.size + 2) 34 6 (lodT T k) wr ∧ NB (w.heap.size + 1) 34 6 zeroT wr ∧ NB w.heap.size 26 65 T wr) (fun i _ _ => 16 - (intOf i).toNat)
  case atStart => exact ⟨0, by omega, rfl, HB.out, HL.out, HR.out, HT.out⟩
  case round =>
    obtain ⟨k, hk, rfl, hB, hL, hR, hT⟩ := hrel
    have HB2 := Lib.hid hB
    have HL2 := Lib.hid hL
    have HR2 := Lib.hid hR
    have HT2 := Lib.hid hT
    clear HB HT HR HL
    by_cases hlt : k < 16
    · have hk1 : (k : Int) < 16 := by omega
      have c0 := nb_cell hT (o := 1 + k * 4) (by omega)
      have hu : T (1 + k * 4) = (rowT T k).1 := rfl
      rw [hu] at c0
      clear hu hB hL hR hT
      by_cases hc : 0 ≤ (rowT T k).1 ∧ (rowT T k).1 < 6
      · obtain ⟨j, hj⟩ : ∃ j : Nat, (rowT T k).1 = (j : Int) := ⟨(rowT T k).1.toNat, by omega⟩
        have hj6 : j < 6 := by omega
        have HY := Lib.hid (lodT_yes hj hj6)
        rw [hj] at c0
        have e2 : (j : Int) < 6 := by omega
        have e1 : decide ((j : Int) < 6) = true := decide_eq_true e2
        have d0 := nb_cell HL2.out hj6
        have g0 := nb_frozen HL2.out j
        have hin := lodT_in T k j
        have hwr : IntKind.i64.wrap (lodT T k j + 1) = lodT T k j + 1 := IntWalk.i64_in _ (by omega)
        have HP := Lib.hid (nb_put HL2.out j (lodT T k j + 1))
        have HRP := Lib.hid ((Below.heap_setCell wr ⟨w.heap.size + 2, j, none⟩ (.int .i64 (lodT T k j + 1)) (w.heap.size + 1) (by simp)).trans HR2.out)
        have HTP := Lib.hid ((Below.heap_setCell wr ⟨w.heap.size + 2, j, none⟩ (.int .i64 (lodT T k j + 1)) w.heap.size (by simp)).trans HT2.out)
        have HBP := Lib.hid (HB2.out.setCell (p := ⟨w.heap.size + 2, j, none⟩) (by simp) (.int .i64 (lodT T k j + 1)))
        clear hj hc hin
        go_wp2
        go_roundw
        case rel => exact ⟨k + 1, by omega, by go_num, HBP.out, by rw [HY.out]; exact HP.out, HRP.out, HTP.out⟩
        case measure => simp [intOf]; omega
      · have HY := Lib.hid (lodT_no hc)
        have e1 : (decide (0 ≤ (rowT T k).1) && decide ((rowT T k).1 < 6)) = false := by
          rw [Bool.eq_false_iff]
          simp only [ne_eq, Bool.and_eq_true, decide_eq_true_eq]
          exact hc
        generalize (rowT T k).1 = c at *
        by_cases h0 : 0 ≤ c
        · have e0 : decide (c < 6) = false := by simpa [h0] using e1
          clear e1 hc
          go_wp2
          go_roundw
          case rel => exact ⟨k + 1, by omega, by go_num, HB2.out, by rw [HY.out]; exact HL2.out, HR2.out, HT2.out⟩
          case measure => simp [intOf]; omega
        · have e0 : decide (0 ≤ c) = false := by simpa using h0
          clear e1 hc h0
          go_wp2
          go_roundw
          case rel => exact ⟨k + 1, by omega, by go_num, HB2.out, by rw [HY.out]; exact HL2.out, HR2.out, HT2.out⟩
          case measure => simp [intOf]; omega
    · obtain rfl : k = 16 := by omega
      have l0 := ld_nums hL
      have s0 := st_nums hR (lodT T 16)
      have HS := Lib.hid (nb_full hR (lodT T 16))
      have HX := Lib.hid (below_setCells (w.heap.size + 1) (by omega) (numL 6 (lodT T 16)) 0 w _ hB)
      clear hB hL hR hT
      go_wp2
      exact bodyPost_ret (results_cell_row rfl _ _ (w.heap.size + 1) 34 _ (0, 0) _ rfl HS.out Try.undN rfl (by rw [List.size_toArray, numL_len]; exact Try.sizN)) rfl ⟨rfl, HX.out⟩

/-- While the rows come. -/
structure LdI (T : Nat → Int) (w : World) (pre : List Nat) (W : World) : Prop where
  lo : Below w.heap.size w W
  ls : NB (w.heap.size + 2) 34 6 (lodT T pre.length) W
  ret : NB (w.heap.size + 1) 34 6 zeroT W
theorem ldI_abide (T : Nat → Int) (w : World) (B : Nat) (hB : w.heap.size + 3 ≤ B) : Abide4 B (LdI T w) where
  far := fun _ _ _ h k => ⟨h.lo.trans (k.mono h.lo.size), bb h.ls k, bb h.ret k⟩
  turn := fun _ _ _ _ o' h hl ho hc => ⟨h.lo.trans ⟨rfl, rfl, rfl, by simp [World.putObj], fun k hk => World.putObj_heap_other (by omega)⟩, (World.putObj_heap_other (by omega)).trans h.ls, (World.putObj_heap_other (by omega)).trans h.ret⟩

set_option maxRecDepth 100000 in
set_option maxHeartbeats 8000000 in
theorem loads_in (n : Nat) (hn : 4 ≤ n) (T : Nat → Int) (w : World) :
    CallsIn Fence.wide n Try.prog 16 #[tabV T] w fun e w' => e = .returned (numsV (lodT T 16)) ∧ Below w.heap.size w w' := by
  have h1n : 1 ≤ n := by omega
  refine callsIn_of_wp_marks Try.func16 rfl trivial ?_ rfl
  simp only [Try.ntmps16, List.size_toArray, List.length_cons, List.length_nil, Nat.reduceAdd, Nat.reduceSub, Array.replicate_succ, Array.replicate_zero, List.push_toArray, List.append_toArray, List.nil_append, List.cons_append]
  have bT := heap_alloc_new w (.cells (numL 65 T).toArray 26)
  have LT := (Below.refl w.heap.size w).alloc (Nat.le_refl _) (.cells (numL 65 T).toArray 26)
  have hs1 : (w.alloc (.cells (numL 65 T).toArray 26)).heap.size = w.heap.size + 1 := by simp
  have hWa : ∃ Wa, w.alloc (.cells (numL 65 T).toArray 26) = Wa := ⟨_, rfl⟩
  obtain ⟨Wa, hWa⟩ := hWa
  rw [hWa] at bT LT hs1
  have bR : NB (w.heap.size + 1) 34 6 zeroT (Wa.alloc (.cells #[.int .i64 0, .int .i64 0, .int .i64 0, .int .i64 0, .int .i64 0, .int .i64 0] 34)) := hs1 ▸ heap_alloc_new Wa (.cells (numL 6 zeroT).toArray 34)
  have bT := (Below.heap_alloc Wa (.cells #[.int .i64 0, .int .i64 0, .int .i64 0, .int .i64 0, .int .i64 0, .int .i64 0] 34) _ (by omega)).trans bT
  have LE := LT.alloc LT.size (.cells #[.int .i64 0, .int .i64 0, .int .i64 0, .int .i64 0, .int .i64 0, .int .i64 0] 34)
  have hs2 : (Wa.alloc (.cells #[.int .i64 0, .int .i64 0, .int .i64 0, .int .i64 0, .int .i64 0, .int .i64 0] 34)).heap.size = w.heap.size + 2 := by simp; omega
  obtain ⟨Wb, hWb⟩ : ∃ Wb, Wa.alloc (.cells #[.int .i64 0, .int .i64 0, .int .i64 0, .int .i64 0, .int .i64 0, .int .i64 0] 34) = Wb := ⟨_, rfl⟩
  rw [hWb] at bT LE hs2 bR
  have bL : NB (w.heap.size + 2) 34 6 zeroT (Wb.alloc (.cells #[.int .i64 0, .int .i64 0, .int .i64 0, .int .i64 0, .int .i64 0, .int .i64 0] 34)) := hs2 ▸ heap_alloc_new Wb (.cells (numL 6 zeroT).toArray 34)
  have bT := (Below.heap_alloc Wb (.cells #[.int .i64 0, .int .i64 0, .int .i64 0, .int .i64 0, .int .i64 0, .int .i64 0] 34) _ (by omega)).trans bT
  have bR := (Below.heap_alloc Wb (.cells #[.int .i64 0, .int .i64 0, .int .i64 0, .int .i64 0, .int .i64 0, .int .i64 0] 34) _ (by omega)).trans bR
  have L0 := LE.alloc LE.size (.cells #[.int .i64 0, .int .i64 0, .int .i64 0, .int .i64 0, .int .i64 0, .int .i64 0] 34)
  have hs3 : (Wb.alloc (.cells #[.int .i64 0, .int .i64 0, .int .i64 0, .int .i64 0, .int .i64 0, .int .i64 0] 34)).heap.size = w.heap.size + 3 := by simp; omega
  have l0 := ld_tab bT
  subst hWb
  subst hWa
  clear hs1 hs2 LE LT bT
  gi_wp2_with fail
  generalize ((w.alloc (.cells (numL 65 T).toArray 26)).alloc (.cells #[.int .i64 0, .int .i64 0, .int .i64 0, .int .i64 0, .int .i64 0, .int .i64 0] 34)).alloc (.cells #[.int .i64 0, .int .i64 0, .int .i64 0, .int .i64 0, .int .i64 0, .int .i64 0] 34) = W0 at *
  refine ⟨trivial, (rows_in (n - 1) T W0).mono ?_⟩
  rintro e w1 ⟨rfl, rfl⟩
  have hV := heap_alloc_new W0 (.cells (numL 65 T).toArray 26)
  have hsV : (W0.alloc (.cells (numL 65 T).toArray 26)).heap.size = w.heap.size + 4 := by simp; omega
  have IV : LdI T w [] (W0.alloc (.cells (numL 65 T).toArray 26)) := ⟨L0.alloc L0.size _, (Below.heap_alloc _ _ _ (by omega)).trans bL, (Below.heap_alloc _ _ _ (by omega)).trans bR⟩
  rw [hs3] at hV ⊢
  have HI := Lib.hid IV
  clear l0 bR bL L0 hs3 IV
  gi_wp2
  generalize W0.alloc (.cells (numL 65 T).toArray 26) = V at *
  refine range_okG rfl h1n (gf := 42) (lb := #[.pointer (some ⟨w.heap.size + 3, 0, none⟩)]) rfl trivial (enters_of Try.func42 (by kernel_rfl) rfl)
    (rows_ok (n - 1) (by omega) (w.heap.size + 3) T V hV) (fun _ _ _ _ _ _ h _ _ _ => h) (fun _ _ => trivial) (fun _ _ _ _ _ _ _ _ => trivial) (fun _ => rfl)
    (LdI T w) (fun _ _ _ => False) (ldI_abide T w _ (by omega)) (fun _ => Abide4.none _) HI.out
    (fun i => .cells #[.int .i64 (rowT T i).1, .int .i64 (rowT T i).2.1, .int .i64 (rowT T i).2.2.1, .int .i64 (rowT T i).2.2.2] 23) (fun _ _ => trivial) (fun _ _ _ h => h)
    (fun i b => { tmps := #[tabV T, .pointer (some ⟨w.heap.size, 0, none⟩), .pointer (some ⟨w.heap.size + 1, 0, none⟩), .pointer (some ⟨w.heap.size + 1 + 1, 0, none⟩), undef, .pointer (some ⟨b, 0, none⟩), tabV T, .func (.func 42) #[] #[.pointer (some ⟨w.heap.size + 3, 0, none⟩)], .int .i64 (i : Nat), entV (rowT T i), undef, undef, undef, undef, undef, undef, undef, undef, undef, undef, undef, undef, undef, undef, undef], defers := [] }) ?assign ?body ?done ?stop
  case assign =>
    intro l x W K hK
    simp only [encR] at hK ⊢
    gi_wp2
    exact hK
  case stop =>
    rintro D c pre W hD _ h
    exact h.elim
  case done =>
    rintro D ys W hD rfl ⟨hb, hl, hr⟩ hK
    have l0 := ld_nums hl
    have s0 := st_nums hr (lodT T 16)
    have HS := Lib.hid (nb_full hr (lodT T 16))
    have HX := Lib.hid (below_setCells (w.heap.size + 1) (by omega) (numL 6 (lodT T 16)) 0 w _ hb)
    have HK := Lib.hid ((nb_other (b := w.heap.size + 1) (k := D) (by omega) (numL 6 (lodT T 16)) 0 W).trans hK)
    have HD := Lib.hid (show w.heap.size + 4 ≤ D by omega)
    clear hb hl hr hK hD
    gi_wp2
    refine ⟨by simp, .inl ⟨_, _, rfl, run_takeDeferred HK.out, ?_⟩⟩
    refine ⟨_, results_cell_row rfl _ _ (w.heap.size + 1) 34 _ (0, 0) _ rfl ((World.putObj_heap_other (by have := HD.out; omega)).trans HS.out) Try.undN rfl (by rw [List.size_toArray, numL_len]; exact Try.sizN), rfl, HX.out.trans (belowK_b (w := w) (Nat.le_refl _) _ D _ _ (by have := HD.out; omega) HK.out rfl rfl)⟩
  case body =>
    rintro l pre i W b ⟨hb, hl, hr⟩ ⟨hpre, hi⟩ hb1 hb2 hbx
    subst hpre
    rw [List.length_range] at hl
    have q0 := (ent_cells _ _ _ _ hbx).1
    have HB := Lib.hid hb
    have HL := Lib.hid hl
    have HR := Lib.hid hr
    have hlen : (List.range i ++ [i]).length = i + 1 := by rw [List.length_append, List.length_range]; rfl
    have HLEN := Lib.hid hlen
    clear hbx hlen
    by_cases hc : 0 ≤ (rowT T i).1 ∧ (rowT T i).1 < 6
    · obtain ⟨j, hj⟩ : ∃ j : Nat, (rowT T i).1 = (j : Int) := ⟨(rowT T i).1.toNat, by omega⟩
      have hj6 : j < 6 := by omega
      have HY := Lib.hid (lodT_yes hj hj6)
      rw [hj] at q0
      have e2 : (j : Int) < 6 := by omega
      have e1 : decide ((j : Int) < 6) = true := decide_eq_true e2
      have d0 := nb_cell hl hj6
      have g0 := nb_frozen hl j
      have hin := lodT_in T i j
      have hwr : IntKind.i64.wrap (lodT T i j + 1) = lodT T i j + 1 := IntWalk.i64_in _ (by omega)
      have HP := Lib.hid (nb_put hl j (lodT T i j + 1))
      have HRP := Lib.hid ((Below.heap_setCell W ⟨w.heap.size + 2, j, none⟩ (.int .i64 (lodT T i j + 1)) (w.heap.size + 1) (by simp)).trans hr)
      have HBP := Lib.hid (hb.setCell (p := ⟨w.heap.size + 2, j, none⟩) (by simp) (.int .i64 (lodT T i j + 1)))
      have o := Lib.hid (KeepsOthers.setCell W ⟨w.heap.size + 2, j, none⟩ (.int .i64 (lodT T i j + 1)))
      clear hj hc hin hb hl hr
      gi_wp2
      exact ⟨⟨o.out.size, fun k o' _ hk ho => o.out.same k o' hk ho⟩, trivial, HBP.out, by rw [HLEN.out, HY.out]; exact HP.out, HRP.out⟩
    · have HY := Lib.hid (lodT_no hc)
      have e1 : (decide (0 ≤ (rowT T i).1) && decide ((rowT T i).1 < 6)) = false := by
        rw [Bool.eq_false_iff]
        simp only [ne_eq, Bool.and_eq_true, decide_eq_true_eq]
        exact hc
      clear hb hl hr
      generalize (rowT T i).1 = c at *
      by_cases h0 : 0 ≤ c
      · have e0 : decide (c < 6) = false := by simpa [h0] using e1
        clear e1 hc
        gi_wp2
        exact ⟨⟨Nat.le_refl _, fun _ _ _ h _ => h⟩, trivial, HB.out, by rw [HLEN.out, HY.out]; exact HL.out, HR.out⟩
      · have e0 : decide (0 ≤ c) = false := by simpa using h0
        clear e1 hc h0
        gi_wp2
        exact ⟨⟨Nat.le_refl _, fun _ _ _ h _ => h⟩, trivial, HB.out, by rw [HLEN.out, HY.out]; exact HL.out, HR.out⟩

theorem loads_any (T : Nat → Int) (w : World) : Calls Try.prog 16 #[tabV T] w fun e w' => e = .returned (numsV (lodT T 16)) ∧ Below w.heap.size w w' :=
  callsIn_wide.1 (loads_in 4 (by omega) T w)
end Go.Proofs.Ytanbkbppahgbgaa
