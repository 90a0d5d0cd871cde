/- Tables that may be: package table's, the document's. -/
import Derived.Test.YthgoopdekllanaaTbB
namespace Go.Proofs.Ythgoopdekllanaa
open Go.RowKit Go.Shelf
open SumM

attribute [local go_sem] Oper.semAt_some
attribute [local go_sem ↓] nm_ldT nm_ldA nm_stT

/-- May it be? -/
def rgT (T : Nat → Int) : Bool := decide (0 ≤ T 0) && decide (T 0 ≤ 1099511627776) && (List.range 16).all fun i => rgE (rowT T i)
theorem rgT_iff {T : Nat → Int} : rgT T = true ↔ (0 ≤ T 0 ∧ T 0 ≤ 1099511627776) ∧ ∀ i, i < 16 → rgE (rowT T i) = true := by
  simp [rgT, List.all_eq_true, List.mem_range]
theorem rgT_no {T : Nat → Int} {i : Nat} (hi : i < 16) (h : rgE (rowT T i) = false) : rgT T = false := by
  rw [Bool.eq_false_iff]
  intro hc
  rw [(rgT_iff.1 hc).2 i hi] at h
  cases h
theorem rgT_ver {T : Nat → Int} (h : ¬ (0 ≤ T 0 ∧ T 0 ≤ 1099511627776)) : rgT T = false := by
  rw [Bool.eq_false_iff]
  intro hc
  exact h (rgT_iff.1 hc).1

/-- While the rows come; where one may not be. -/
def RtI (T : Nat → Int) (w : World) (pre : List Nat) (W : World) : Prop := Below w.heap.size w W ∧ ∀ i ∈ pre, rgE (rowT T i) = true
def RtX (T : Nat → Int) (w : World) (c : Code) (_ : List Nat) (W : World) : Prop := c = .goto 0 ∧ Below w.heap.size w W ∧ rgT T = false
theorem rtI_abide (T : Nat → Int) (w : World) (B : Nat) (hB : w.heap.size ≤ B) : Abide4 B (RtI T w) where
  far := fun _ _ _ h k => ⟨h.1.trans (k.mono h.1.size), h.2⟩
  turn := fun _ _ _ _ o' h hl ho hc => ⟨h.1.trans ⟨rfl, rfl, rfl, by simp [World.putObj], fun k hk => World.putObj_heap_other (by omega)⟩, h.2⟩
theorem rtX_abide (T : Nat → Int) (w : World) (B : Nat) (hB : w.heap.size ≤ B) (c : Code) : Abide4 B (RtX T w c) where
  far := fun _ _ _ h k => ⟨h.1, h.2.1.trans (k.mono h.2.1.size), h.2.2⟩
  turn := fun _ _ _ _ o' h hl ho hc => ⟨h.1, h.2.1.trans ⟨rfl, rfl, rfl, by simp [World.putObj], fun k hk => World.putObj_heap_other (by omega)⟩, h.2.2⟩

set_option maxRecDepth 100000 in
set_option maxHeartbeats 8000000 in
theorem right_in (n : Nat) (hn : 4 ≤ n) (T : Nat → Int) (w : World) :
    CallsIn Fence.wide n Try.prog 42 #[tabV T] w fun e w' => e = .returned (.bool (rgT T)) ∧ Below w.heap.size w w' := by
  have h1n : 1 ≤ n := by omega
  refine callsIn_of_wp_marks Try.func42 rfl trivial ?_ rfl
  simp only [Try.ntmps42, List.size_toArray, List.length_cons, List.length_nil, Nat.reduceAdd, Nat.reduceSub, Array.replicate_succ, Array.replicate_zero, List.push_toArray, List.append_toArray, List.nil_append, List.cons_append]
  have bT := heap_alloc_new w (.cells (numL 65 T).toArray 26)
  have L0 := (Below.refl w.heap.size w).alloc (Nat.le_refl _) (.cells (numL 65 T).toArray 26)
  have hs0 : (w.alloc (.cells (numL 65 T).toArray 26)).heap.size = w.heap.size + 1 := by simp
  gi_wp2
  generalize w.alloc (.cells (numL 65 T).toArray 26) = W0 at *
  have c0 := nb_cell bT (o := 0) (by omega)
  have l0 := ld_tab bT
  have HB := Lib.hid L0
  have HT := Lib.hid bT
  have HS := Lib.hid hs0
  clear L0 bT hs0
  by_cases hv : 0 ≤ T 0 ∧ T 0 ≤ 1099511627776
  rotate_left
  · have HV := Lib.hid (rgT_ver hv)
    clear l0
    rw [wpIn_wide]
    refine wp_scope_jumps 0 (fun a' w' => w' = W0 ∧ ∃ (v5 v6 v7 v8 v9 v10 v11 v12 : Value), a' = { tmps := #[tabV T, .pointer (some ⟨w.heap.size, 0, none⟩), .bool false, undef, undef, v5, v6, v7, v8, v9, v10, v11, v12, undef, undef, undef, undef, undef, undef, undef], defers := [] }) (fun _ _ => 0) rfl ?first ?pass
    case pass =>
      rintro a' w' ⟨rfl, v5, v6, v7, v8, v9, v10, v11, v12, rfl⟩
      go_wp2
      simp only [Exit.jump]
      exact ⟨_, results_tmp rfl _ _ _, by rw [HV.out]; rfl, HB.out⟩
    case first =>
      rw [← wpIn_wide (n := n)]
      by_cases h0 : T 0 < 0
      · clear hv
        gi_wp2
        refine wpIn_goto ?_
        simp only [Exit.then]
        exact ⟨rfl, rfl, _, _, _, _, _, _, _, _, rfl⟩
      · have h1 : 1099511627776 < T 0 := by omega
        clear hv
        gi_wp2
        refine wpIn_goto ?_
        simp only [Exit.then]
        exact ⟨rfl, rfl, _, _, _, _, _, _, _, _, rfl⟩
  obtain ⟨hv0, hv1⟩ := hv
  have e0 : decide (T 0 < 0) = false := by simpa using hv0
  have e1 : decide (1099511627776 < T 0) = false := by simpa using hv1
  have HV := Lib.hid (And.intro hv0 hv1)
  clear hv0 hv1
  rw [wpIn_wide]
  refine wp_scope_jumps 0 (fun a' w' => ∃ (D : Nat) (v3 v4 v5 v6 v7 v8 v9 v10 v11 v12 v13 v14 v15 v16 v17 v18 v19 : Value), a' = { tmps := #[tabV T, .pointer (some ⟨w.heap.size, 0, none⟩), .bool false, v3, v4, v5, v6, v7, v8, v9, v10, v11, v12, v13, v14, v15, v16, v17, v18, v19], defers := [{ target := .collected D, args := #[] }] } ∧ Below w.heap.size w w' ∧ rgT T = false ∧ w'.heap[D]? = some (.deferred (some [])) ∧ w.heap.size ≤ D) (fun _ _ => 0) rfl ?first ?pass
  case pass =>
    rintro a' w' ⟨D, v3, v4, v5, v6, v7, v8, v9, v10, v11, v12, v13, v14, v15, v16, v17, v18, v19, rfl, hb, hR, hK, hD⟩
    have HB := Lib.hid hb
    have HR := Lib.hid hR
    have HK := Lib.hid hK
    have HD := Lib.hid hD
    clear hb hR hK hD
    go_wp2
    simp only [Exit.jump]
    refine ⟨by simp, .inl ⟨_, _, rfl, run_takeDeferred HK.out, ?_⟩⟩
    refine ⟨_, results_tmp rfl _ _ _, (by rw [HR.out]; rfl), HB.out.trans (belowK_b (w := w) (Nat.le_refl _) _ D _ _ HD.out HK.out rfl rfl)⟩
  case first =>
    rw [← wpIn_wide (n := n)]
    gi_wp2_with fail
    refine ⟨trivial, (rows_in (n - 1) T W0).mono ?_⟩
    rintro e w1 ⟨rfl, rfl⟩
    have hV := heap_alloc_new W0 (.cells (numL 65 T).toArray 26)
    have hsV : (W0.alloc (.cells (numL 65 T).toArray 26)).heap.size = w.heap.size + 2 := by simp; have := HS.out; omega
    have LV := Lib.hid (HB.out.alloc HB.out.size (.cells (numL 65 T).toArray 26))
    rw [HS.out] at hV ⊢
    clear c0 l0 e0 e1
    gi_wp2
    generalize W0.alloc (.cells (numL 65 T).toArray 26) = V at *
    refine range_okG rfl h1n (gf := 79) (lb := #[.pointer (some ⟨w.heap.size + 1, 0, none⟩)]) rfl trivial (enters_of Try.func79 (by kernel_rfl) rfl)
      (rows_ok (n - 1) (by omega) (w.heap.size + 1) T V hV) (fun _ _ _ _ _ _ h _ _ _ => h) (fun _ _ => trivial) (fun _ _ _ _ _ _ _ _ => trivial) (fun _ => rfl)
      (RtI T w) (RtX T w) (rtI_abide T w _ (by omega)) (rtX_abide T w _ (by omega)) ⟨LV.out, fun i h => absurd h (by simp)⟩
      (fun i => .cells #[.int .i64 (rowT T i).1, .int .i64 (rowT T i).2.1, .int .i64 (rowT T i).2.2.1, .int .i64 (rowT T i).2.2.2] 23) (fun _ _ => trivial) (fun _ _ _ h => h)
      (fun i b => { tmps := #[tabV T, .pointer (some ⟨w.heap.size, 0, none⟩), .bool false, undef, .pointer (some ⟨b, 0, none⟩), .pointer (some ⟨w.heap.size, 0, none⟩), .int .i64 (T 0), .bool false, .bool false, .pointer (some ⟨w.heap.size, 0, none⟩), .int .i64 (T 0), .bool false, .bool false, tabV T, .func (.func 79) #[] #[.pointer (some ⟨w.heap.size + 1, 0, none⟩)], .int .i64 (i : Nat), entV (rowT T i), undef, undef, undef], defers := [] }) ?assign ?body ?done ?stop
    case assign =>
      intro l x W K hK
      simp only [encR] at hK ⊢
      gi_wp2
      exact hK
    case stop =>
      rintro D c pre W hD _ ⟨rfl, h2, h3⟩ hK
      refine wpIn_goto ?_
      simp only [Exit.inBlock, Exit.then]
      exact ⟨rfl, D, _, _, _, _, _, _, _, _, _, _, _, _, _, _, _, _, _, rfl, h2, h3, hK, by omega⟩
    case done =>
      rintro D ys W hD rfl ⟨hb, hall⟩ hK
      have HR := Lib.hid (rgT_iff.2 ⟨HV.out, fun i hi => hall i (List.mem_range.2 hi)⟩)
      have HB := Lib.hid hb
      have HK := Lib.hid hK
      have HD := Lib.hid (show w.heap.size ≤ D by omega)
      clear hb hall hK hD
      simp only [Exit.inBlock, Exit.then]
      apply_assumption
      rw [wpIn_wide]
      go_wp2
      simp only [Exit.jump]
      refine ⟨by simp, .inl ⟨_, _, rfl, run_takeDeferred HK.out, ?_⟩⟩
      refine ⟨_, results_tmp rfl _ _ _, (by rw [HR.out]; rfl), HB.out.trans (belowK_b (w := w) (Nat.le_refl _) _ D _ _ HD.out HK.out rfl rfl)⟩
    case body =>
      rintro l pre i W b ⟨hb, hall⟩ ⟨hpre, hi⟩ hb1 hb2 hbx
      have hno : rgE (rowT T i) = false → rgT T = false := rgT_no hi
      have hyes : rgE (rowT T i) = true → ∀ j ∈ pre ++ [i], rgE (rowT T j) = true := fun h j hj => by
        rcases List.mem_append.1 hj with hj | hj
        · exact hall j hj
        · rw [List.mem_singleton.1 hj]; exact h
      have hE := eRight_any (rowT T i).1 (rowT T i).2.1 (rowT T i).2.2.1 (rowT T i).2.2.2 W
      have hr : rgt (rowT T i).1 (rowT T i).2.1 (rowT T i).2.2.1 (rowT T i).2.2.2 = rgE (rowT T i) := rfl
      rw [hr] at hE
      clear hr
      generalize rgE (rowT T i) = r at *
      generalize rowT T i = u at *
      obtain ⟨u0, u1, u2, u3⟩ := u
      obtain ⟨q0, q1, q2, q3⟩ := ent_cells _ _ _ _ hbx
      have HN := Lib.hid hno
      have HY := Lib.hid hyes
      have HE := Lib.hid hE
      have HB := Lib.hid hb
      clear hno hyes hE hb hall hpre hbx
      gi_wp2_with fail
      refine ⟨trivial, (fun _ => by omega), CallsIn.inRound l (callsIn_wide.2 (HE.out.mono ?_))⟩
      rintro e w2 ⟨rfl, m2⟩
      have HM := Lib.hid m2
      clear q0 q1 q2 q3 m2
      cases r
      · gi_wp2
        refine wpIn_goto ?_
        simp only [Exit.inBlock]
        exact ⟨⟨HM.out.size, fun k o _ hk _ => (HM.out.block k (Array.getElem?_eq_some_iff.1 hk).1).trans hk⟩, rfl, HB.out.trans (HM.out.mono HB.out.size), HN.out (by simp)⟩
      · gi_wp2
        exact ⟨⟨HM.out.size, fun k o _ hk _ => (HM.out.block k (Array.getElem?_eq_some_iff.1 hk).1).trans hk⟩, trivial, HB.out.trans (HM.out.mono HB.out.size), HY.out (by simp)⟩

theorem right_any (T : Nat → Int) (w : World) : Calls Try.prog 42 #[tabV T] w fun e w' => e = .returned (.bool (rgT T)) ∧ Below w.heap.size w w' :=
  callsIn_wide.1 (right_in 4 (by omega) T w)

set_option maxRecDepth 100000 in
set_option maxHeartbeats 8000000 in
theorem r10Right_any (T : Nat → Int) (w : World) : Calls Try.prog 45 #[tabV T] w fun e w' => e = .returned (.bool (rgT T)) ∧ Below w.heap.size w w' := by
  have bT := heap_alloc_new w (.cells (numL 65 T).toArray 26)
  have L0 := (Below.refl w.heap.size w).alloc (Nat.le_refl _) (.cells (numL 65 T).toArray 26)
  go_enter Try.func45, Try.ntmps45
  go_upto_region 1 with (fail)
  generalize w.alloc (.cells (numL 65 T).toArray 26) = W0 at *
  have c0 := nb_cell bT (o := 0) (by omega)
  have HB := Lib.hid L0
  have HT := Lib.hid bT
  clear L0 bT
  by_cases h0 : T 0 < 0
  · have HV := Lib.hid (rgT_ver (T := T) (by omega))
    go_wp2
    go_ret
    exact ⟨ret_bool HV.out.symm, HB.out⟩
  by_cases h1 : 1099511627776 < T 0
  · have HV := Lib.hid (rgT_ver (T := T) (by omega))
    have e0 : decide (T 0 < 0) = false := by simpa using h0
    clear h0
    go_wp2
    go_ret
    exact ⟨ret_bool HV.out.symm, HB.out⟩
  have e0 : decide (T 0 < 0) = false := by simpa using h0
  have e1 : decide (1099511627776 < T 0) = false := by simpa using h1
  have HV := Lib.hid (show 0 ≤ T 0 ∧ T 0 ≤ 1099511627776 by omega)
  clear h0 h1
  go_wp2
  clear e0 e1 c0
  go_loopw [3] (fun i wr => ∃ k : Nat, k ≤ 16 ∧ i = .int .i64 (k : Nat) ∧ Below W0.heap.size W0 wr ∧ ∀ j, j < k → rgE (rowT T j) = true) (fun i _ => 16 - (intOf i).toNat)
  case atStart => exact ⟨0, by omega, rfl, Below.refl _ _, fun j h => absurd h (by omega)⟩
  case round =>
    obtain ⟨k, hk, rfl, hB, hall⟩ := hrel
    have HW := Lib.hid hB
    have HA := Lib.hid hall
    by_cases hlt : k < 16
    · have q := rng_row (nb_below HT.out hB) k hlt
      have hno : rgE (rowT T k) = false → rgT T = false := rgT_no hlt
      have hyes : rgE (rowT T k) = true → ∀ j, j < k + 1 → rgE (rowT T j) = true := fun h j hj => by
        rcases Nat.lt_or_ge j k with hj2 | hj2
        · exact hall j hj2
        · rw [show j = k by omega]; exact h
      have hE := r9Right_any (rowT T k).1 (rowT T k).2.1 (rowT T k).2.2.1 (rowT T k).2.2.2 wr
      have hr : rgt (rowT T k).1 (rowT T k).2.1 (rowT T k).2.2.1 (rowT T k).2.2.2 = rgE (rowT T k) := rfl
      rw [hr] at hE
      clear hr
      generalize rgE (rowT T k) = r at *
      generalize rowT T k = u at *
      obtain ⟨u0, u1, u2, u3⟩ := u
      obtain ⟨q0, q1, q2, q3⟩ := ent_of_range _ _ _ _ q
      have HN := Lib.hid hno
      have HY := Lib.hid hyes
      have HE := Lib.hid hE
      have hk1 : (k : Int) < 16 := by omega
      clear hno hyes hE hB hall q
      go_wp2_with fail
      refine HE.out.mono ?_
      rintro e w2 ⟨rfl, m2⟩
      have HM := Lib.hid m2
      clear q0 q1 q2 q3 m2
      cases r
      · go_wp2
        go_ret
        exact ⟨ret_bool (HN.out (by simp)).symm, (HB.out.trans (HW.out.mono HB.out.size)).trans (HM.out.mono (Nat.le_trans HB.out.size HW.out.size))⟩
      · go_wp2
        go_roundw
        case rel => exact ⟨k + 1, by omega, by go_num, HW.out.trans (HM.out.mono HW.out.size), HY.out (by simp)⟩
        case measure => simp [intOf]; omega
    · obtain rfl : k = 16 := by omega
      have HR := Lib.hid (rgT_iff.2 ⟨HV.out, hall⟩)
      clear hB hall
      go_wp2
      go_ret
      exact ⟨ret_bool HR.out.symm, HB.out.trans (HW.out.mono HB.out.size)⟩
end Go.Proofs.Ythgoopdekllanaa
