/- 'handfastlaw10.TableMerges' returns true at every two tables, and leaves what lay as it lay. -/
import Derived.Test.YtanbkbppahgbgaaTbW
import Derived.Test.YtanbkbppahgbgaaTbL
namespace Go.Proofs.Ytanbkbppahgbgaa
open Go.RowKit Go.Shelf
open SumM

attribute [local go_sem] Oper.semAt_some zero_tab build_tab guard_undef
attribute [local go_sem ↓] nm_ldT nm_ldA nm_ldN nm_stT nm_stN

theorem mgT_in {T U : Nat → Int} {k : Nat} (hk : k < 16) (j : Nat) (hj : j < 4) : mg T U (1 + k * 4 + j) = if nwP T U k = true then U (1 + k * 4 + j) else T (1 + k * 4 + j) := by
  unfold mg upd mgT
  rw [if_neg (by omega), show (1 + k * 4 + j - 1) / 4 = k by omega]
  by_cases h : nwP T U k = true
  · rw [if_pos ⟨by omega, by omega, h⟩, if_pos h]
  · rw [if_neg (fun c => h c.2.2), if_neg h]
theorem mg_row {T U : Nat → Int} {k : Nat} (hk : k < 16) : rowT (mg T U) k = if nwP T U k = true then rowT U k else rowT T k := by
  have h0 := mgT_in (T := T) (U := U) hk 0 (by omega)
  have h1 := mgT_in (T := T) (U := U) hk 1 (by omega)
  have h2 := mgT_in (T := T) (U := U) hk 2 (by omega)
  have h3 := mgT_in (T := T) (U := U) hk 3 (by omega)
  simp only [Nat.add_zero] at h0
  unfold rowT
  rw [h0, h1, h2, h3]
  split <;> rfl
theorem mg_ver (T U : Nat → Int) : mg T U 0 = max (T 0) (U 0) := rfl
theorem nwP_self (T : Nat → Int) (k : Nat) : nwP T T k = false := by simp [nwP]
/-- Merged with itself: the same. -/
theorem mg_self (T : Nat → Int) : eqN 65 (mg T T) T = true := by
  rw [eqN_iff]
  intro o ho
  unfold mg upd mgT
  by_cases h0 : o = 0
  · subst h0
    simp
  · rw [if_neg h0]
    split <;> rfl
/-- Merged again: the same. -/
theorem mg_again (T U : Nat → Int) : eqN 65 (mg (mg T U) U) (mg T U) = true := by
  rw [eqN_iff]
  intro o ho
  by_cases h0 : o = 0
  · subst h0
    rw [mg_ver, mg_ver]
    omega
  · have hk : (o - 1) / 4 < 16 := by omega
    have e : o = 1 + (o - 1) / 4 * 4 + (o - 1) % 4 := by omega
    have hm : (o - 1) % 4 < 4 := by omega
    generalize (o - 1) / 4 = k at *
    generalize (o - 1) % 4 = j at *
    subst e
    rw [mgT_in hk j hm]
    split
    · rename_i h
      rw [mgT_in hk j hm]
      by_cases h2 : nwP T U k = true
      · rw [if_pos h2]
      · have h3 : nwP (mg T U) U k = nwP T U k := by
          unfold nwP
          rw [mg_row hk, if_neg h2]
        rw [h3] at h
        exact absurd h h2
    · rfl
/-- Of two that may be it may be. -/
theorem mg_right {T U : Nat → Int} (h : rgT T = true) (h' : rgT U = true) : rgT (mg T U) = true := by
  obtain ⟨h1, h2⟩ := rgT_iff.1 h
  obtain ⟨h3, h4⟩ := rgT_iff.1 h'
  refine rgT_iff.2 ⟨by rw [mg_ver]; omega, fun i hi => ?_⟩
  rw [mg_row hi]
  split
  · exact h4 i hi
  · exact h2 i hi

set_option maxRecDepth 100000 in
set_option maxHeartbeats 16000000 in
theorem tbMerges_walk (T U : Nat → Int) (w : World) (_hT : TabOk T) (_hU : TabOk U) :
    Calls Try.prog 5 #[tabV T, tabV U] w fun e w' => e = .returned (.bool true) ∧ Below w.heap.size w w' := by
  have bT := heap_alloc_new w (.cells (numL 65 T).toArray 26)
  have bT := (Below.heap_alloc _ (.cells (numL 65 U).toArray 26) _ (by simp)).trans bT
  have bU := heap_alloc_new (w.alloc (.cells (numL 65 T).toArray 26)) (.cells (numL 65 U).toArray 26)
  rw [World.size_alloc] at bU
  have La := ((Below.refl w.heap.size w).alloc (Nat.le_refl _) (.cells (numL 65 T).toArray 26)).alloc (by simp) (.cells (numL 65 U).toArray 26)
  go_enter Try.func5, Try.ntmps5
  go_upto_region 1 with (fail)
  generalize (w.alloc (.cells (numL 65 T).toArray 26)).alloc (.cells (numL 65 U).toArray 26) = Wa at *
  have l0 := ld_tab bT
  have l1 := ld_tab bU
  go_wp2_with fail
  refine (merge_any T U Wa).mono ?_
  rintro e w1 ⟨rfl, m1⟩
  replace bT := bb bT m1
  replace bU := bb bU m1
  replace La := La.trans (m1.mono La.size)
  have s0 := st_new w1 (mg T U)
  obtain ⟨bM, j1⟩ := boxT_new w1 (mg T U)
  replace bT := bb bT j1
  replace bU := bb bU j1
  have L0 := La.trans (j1.mono La.size)
  clear l0 l1 m1 La j1
  go_upto_region 2 with fail
  generalize (w1.alloc (.cells (numL 65 zeroT).toArray 26)).setCells w1.heap.size 0 (numL 65 (mg T U)) = W0 at *
  generalize w1.heap.size = A1 at *
  have HB := Lib.hid L0
  have HT := Lib.hid bT
  have HU := Lib.hid bU
  have HM := Lib.hid bM
  clear s0 L0 bT bU bM
  go_wp2
  go_loopw [6] (fun i wr => ∃ k : Nat, k ≤ 16 ∧ i = .int .i64 (k : Nat) ∧ Below W0.heap.size W0 wr) (fun i _ => 16 - (intOf i).toNat)
  case atStart => exact ⟨0, by omega, rfl, Below.refl _ _⟩
  case round =>
    obtain ⟨k, hk, rfl, hX⟩ := hrel
    have HX := Lib.hid hX
    by_cases hlt : k < 16
    · have hk1 : (k : Int) < 16 := by omega
      have qT := rng_row (bb HT.out hX) k hlt
      have hmr := mg_row (T := T) (U := U) hlt
      have hdef : nwP T U k = decide ((rowT T k).2.2.1 < (rowT U k).2.2.1) := rfl
      have CU := Lib.hid (fun W (m : Below W0.heap.size W0 W) => rng_row (bb HU.out m) k hlt)
      have CM := Lib.hid (fun W (m : Below W0.heap.size W0 W) => rng_row (bb HM.out m) k hlt)
      rw [hmr] at CM
      generalize nwP T U k = p at *
      generalize rowT T k = t at *
      generalize rowT U k = u at *
      obtain ⟨t0, t1, t2, t3⟩ := t
      obtain ⟨u0, u1, u2, u3⟩ := u
      simp only at hdef
      obtain ⟨q0, q1, q2, q3⟩ := ent_of_range _ _ _ _ qT
      have hd := heap_alloc_new wr (.cells #[.int .i64 0, .int .i64 0, .int .i64 0, .int .i64 0] 23)
      obtain ⟨z0, z1, z2, z3⟩ := ent_cells _ _ _ _ hd
      have f0 := ent_frozen hd 0
      have f1 := ent_frozen hd 1
      have f2 := ent_frozen hd 2
      have f3 := ent_frozen hd 3
      have HD := Lib.hid hdef
      have hsz := Lib.hid hX.size
      clear qT hmr hdef hd hX
      go_upto_region 6 with fail
      have bX := heap_alloc_new wr (.cells #[.int .i64 t0, .int .i64 t1, .int .i64 t2, .int .i64 t3] 23)
      have j := HX.out.alloc HX.out.size (.cells #[.int .i64 t0, .int .i64 t1, .int .i64 t2, .int .i64 t3] 23)
      clear z0 z1 z2 z3 f0 f1 f2 f3 q0 q1 q2 q3
      generalize wr.alloc (.cells #[.int .i64 t0, .int .i64 t1, .int .i64 t2, .int .i64 t3] 23) = w5 at *
      obtain ⟨y0, y1, y2, y3⟩ := ent_of_range _ _ _ _ (CU.out _ j)
      obtain ⟨x0, x1, x2, x3⟩ := ent_cells _ _ _ _ bX
      have hcmp : decide (t2 < u2) = p := HD.out.symm
      have HJ := Lib.hid j
      have HBX := Lib.hid bX
      have hb5 : wr.heap.size = wr.heap.size := rfl
      generalize hbe : wr.heap.size = b5 at *
      clear hb5 j bX
      go_quiet (fail)
      clear x0 x1 x2 x3 y0 y1 y2 y3 hcmp
      have bX : (w5.drewN nq).heap[b5]? = some (.cells #[.int .i64 t0, .int .i64 t1, .int .i64 t2, .int .i64 t3] 23 (0, 0)) := HBX.out
      have j : Below W0.heap.size W0 (w5.drewN nq) := below_tb HJ.out nq
      clear HBX HJ
      generalize w5.drewN nq = w5 at *
      have hszb : W0.heap.size ≤ b5 := by have := hsz.out; omega
      have HSZ := Lib.hid hszb
      clear hbe hszb
      cases p
      · have qM := CM.out _ j
        simp only [Bool.false_eq_true, if_false] at qM
        obtain ⟨x0, x1, x2, x3⟩ := ent_of_range _ _ _ _ qM
        obtain ⟨y0, y1, y2, y3⟩ := ent_cells _ _ _ _ bX
        have hne : ∀ W : World, (Go.binOp .neq 23 (.agg #[.int .i64 t0, .int .i64 t1, .int .i64 t2, .int .i64 t3]) (.agg #[.int .i64 t0, .int .i64 t1, .int .i64 t2, .int .i64 t3])).run Try.prog W = .ok (.bool false) W := fun W => by rw [run_neE, eqE_same]; rfl
        have HJ := Lib.hid j
        clear qM bX j CM CU HD
        go_upto_region 8 with fail
        go_quiet (fail)
        clear x0 x1 x2 x3 y0 y1 y2 y3 hne
        go_wp2
        go_roundw
        case rel => exact ⟨k + 1, by omega, by go_num, below_tb HJ.out _⟩
        case measure => simp [intOf]; omega
      · have qM := CM.out _ j
        obtain ⟨y0, y1, y2, y3⟩ := ent_cells _ _ _ _ bX
        obtain ⟨v0, v1, v2, v3⟩ := ent_of_range _ _ _ _ (CU.out _ j)
        have f0 := ent_frozen bX 0
        have f1 := ent_frozen bX 1
        have f2 := ent_frozen bX 2
        have f3 := ent_frozen bX 3
        have HS := Lib.hid (show ((((w5.setCell ⟨b5, 0, none⟩ (.int .i64 u0)).setCell ⟨b5, 1, none⟩ (.int .i64 u1)).setCell ⟨b5, 2, none⟩ (.int .i64 u2)).setCell ⟨b5, 3, none⟩ (.int .i64 u3)).heap[b5]? = some (.cells #[.int .i64 u0, .int .i64 u1, .int .i64 u2, .int .i64 u3] 23 (0, 0)) from full_setCells bX [.int .i64 u0, .int .i64 u1, .int .i64 u2, .int .i64 u3] rfl)
        have HJ := Lib.hid (show Below W0.heap.size W0 ((((w5.setCell ⟨b5, 0, none⟩ (.int .i64 u0)).setCell ⟨b5, 1, none⟩ (.int .i64 u1)).setCell ⟨b5, 2, none⟩ (.int .i64 u2)).setCell ⟨b5, 3, none⟩ (.int .i64 u3)) from below_setCells b5 HSZ.out [.int .i64 u0, .int .i64 u1, .int .i64 u2, .int .i64 u3] 0 W0 _ j)
        clear qM bX j
        go_upto_region 8 with fail
        have bX := HS.out
        have j := HJ.out
        clear HS HJ y0 y1 y2 y3 v0 v1 v2 v3 f0 f1 f2 f3
        generalize (((w5.setCell ⟨b5, 0, none⟩ (.int .i64 u0)).setCell ⟨b5, 1, none⟩ (.int .i64 u1)).setCell ⟨b5, 2, none⟩ (.int .i64 u2)).setCell ⟨b5, 3, none⟩ (.int .i64 u3) = w6 at *
        have qM := CM.out _ j
        simp only [if_true] at qM
        obtain ⟨x0, x1, x2, x3⟩ := ent_of_range _ _ _ _ qM
        obtain ⟨y0, y1, y2, y3⟩ := ent_cells _ _ _ _ bX
        have hne : ∀ W : World, (Go.binOp .neq 23 (.agg #[.int .i64 u0, .int .i64 u1, .int .i64 u2, .int .i64 u3]) (.agg #[.int .i64 u0, .int .i64 u1, .int .i64 u2, .int .i64 u3])).run Try.prog W = .ok (.bool false) W := fun W => by rw [run_neE, eqE_same]; rfl
        have HJ := Lib.hid j
        clear qM bX j CM CU HD
        go_quiet (fail)
        clear x0 x1 x2 x3 y0 y1 y2 y3 hne
        go_wp2
        go_roundw
        case rel => exact ⟨k + 1, by omega, by go_num, below_tb HJ.out _⟩
        case measure => simp [intOf]; omega
    · obtain rfl : k = 16 := by omega
      have bT := bb HT.out hX
      have bU := bb HU.out hX
      have bM := bb HM.out hX
      have L5 := HB.out.trans (hX.mono HB.out.size)
      clear hX HT HU HM HX HB
      go_upto_region 10 with fail
      have TW := Lib.hid twakes_any
      have KM1 := Lib.hid (fun W => merge_any T T W)
      have KM2 := Lib.hid (fun W => merge_any (mg T U) U W)
      have KT := Lib.hid (fun W => r10Right_any T W)
      have KU := Lib.hid (fun W => r10Right_any U W)
      have KM := Lib.hid (fun W => right_any (mg T U) W)
      have hq1 : ∀ W : World, (Go.binOp .neq 26 (tabV (mg T T)) (tabV T)).run Try.prog W = .ok (.bool false) W := fun W => by rw [neq_tab, mg_self]; rfl
      have hq2 : ∀ W : World, (Go.binOp .neq 26 (tabV (mg (mg T U) U)) (tabV (mg T U))).run Try.prog W = .ok (.bool false) W := fun W => by rw [neq_tab, mg_again]; rfl
      have HRT := Lib.hid (mg_right (T := T) (U := U))
      have hmv := mg_ver T U
      have nc := (Below.refl wr.heap.size wr).drew
      have CS0 := Lib.hid (fun W (m : Below wr.heap.size wr W) => show (ldS 26 (.pointer (some ⟨w.heap.size, 0, none⟩))).run Try.prog W = .ok (tabV T) W ∧ (ldS 26 (.pointer (some ⟨w.heap.size + 1, 0, none⟩))).run Try.prog W = .ok (tabV U) W ∧ (ldS 26 (.pointer (some ⟨A1, 0, none⟩))).run Try.prog W = .ok (tabV (mg T U)) W ∧ W.cell? ⟨w.heap.size, 0, none⟩ = some (.int .i64 (T 0)) ∧ W.cell? ⟨w.heap.size + 1, 0, none⟩ = some (.int .i64 (U 0)) ∧ W.cell? ⟨A1, 0, none⟩ = some (.int .i64 (mg T U 0)) from ⟨ld_tab (bb bT m), ld_tab (bb bU m), ld_tab (bb bM m), nb_cell (bb bT m) (by omega), nb_cell (bb bU m) (by omega), nb_cell (bb bM m) (by omega)⟩)
      have CB := Lib.hid (fun W (m : Below wr.heap.size wr W) => And.intro (bb bT m) (And.intro (bb bU m) (And.intro (bb bM m) (L5.trans (m.mono L5.size)))))
      clear bT bU bM L5 hlt hk
      generalize mg (mg T U) U = M2 at *
      generalize mg T T = M1 at *
      generalize mg T U = M at *
      generalize T 0 = t0 at *
      generalize U 0 = u0 at *
      generalize M 0 = m0 at *
      generalize rgT T = rt at *
      generalize rgT U = ru at *
      generalize rgT M = rm at *
      go_cut [58] (fun v wx => v = .bool false ∧ Below wr.heap.size wr wx)
      case first =>
        by_cases hm : t0 < u0
        · obtain rfl : m0 = u0 := by omega
          have CS := CS0
          clear hmv CS0
          refine wp_region_held_drew (S := fun W => (ldS 26 (.pointer (some ⟨w.heap.size, 0, none⟩))).run Try.prog W = .ok (tabV T) W ∧ (ldS 26 (.pointer (some ⟨w.heap.size + 1, 0, none⟩))).run Try.prog W = .ok (tabV U) W ∧ (ldS 26 (.pointer (some ⟨A1, 0, none⟩))).run Try.prog W = .ok (tabV M) W ∧ W.cell? ⟨w.heap.size, 0, none⟩ = some (.int .i64 t0) ∧ W.cell? ⟨w.heap.size + 1, 0, none⟩ = some (.int .i64 m0) ∧ W.cell? ⟨A1, 0, none⟩ = some (.int .i64 m0)) (by kernel_rfl) (CS.out _ nc) (fun hHeld => ?_)
          refine wpAnyH_take (i := 0) (oi := { dst := some 37, op := Op.fieldAddr 26 (Operand.tmp 5) 0, type := 0, pos := "law.go:60", after := #[], guard := none }) (v := ?_) rfl (by kernel_rfl) (by kernel_rfl) (by kernel_rfl) (fun _ _ _ h => h) (Or.inl ⟨by rfl, ?_⟩) (by assumption) ?_
          rotate_left
          · intro w hSw
            (try dsimp only at hSw)
            first | (go_simp; done) | (go_simp; with_reducible rfl)
          (try simp only [Act.put, List.setIfInBounds_toArray, List.set_cons_zero, List.set_cons_succ])
          refine wpAnyH_take (i := 1) (oi := { dst := some 38, op := Op.load 3 (Operand.tmp 37), type := 3, pos := "law.go:60", after := #[{ on := 0, ground := Ground.data }], guard := none }) (v := ?_) rfl (by kernel_rfl) (by kernel_rfl) (by kernel_rfl) (fun _ _ _ h => h) (Or.inl ⟨by rfl, ?_⟩) (by assumption) ?_
          rotate_left
          · intro w hSw
            (try dsimp only at hSw)
            first | (go_simp; done) | (go_simp; with_reducible rfl)
          (try simp only [Act.put, List.setIfInBounds_toArray, List.set_cons_zero, List.set_cons_succ])
          refine wpAnyH_take (i := 2) (oi := { dst := some 39, op := Op.fieldAddr 26 (Operand.tmp 2) 0, type := 0, pos := "law.go:60", after := #[], guard := none }) (v := ?_) rfl (by kernel_rfl) (by kernel_rfl) (by kernel_rfl) (fun _ _ _ h => h) (Or.inl ⟨by rfl, ?_⟩) (by assumption) ?_
          rotate_left
          · intro w hSw
            (try dsimp only at hSw)
            first | (go_simp; done) | (go_simp; with_reducible rfl)
          (try simp only [Act.put, List.setIfInBounds_toArray, List.set_cons_zero, List.set_cons_succ])
          refine wpAnyH_take (i := 3) (oi := { dst := some 40, op := Op.load 3 (Operand.tmp 39), type := 3, pos := "law.go:60", after := #[{ on := 2, ground := Ground.data }], guard := none }) (v := ?_) rfl (by kernel_rfl) (by kernel_rfl) (by kernel_rfl) (fun _ _ _ h => h) (Or.inl ⟨by rfl, ?_⟩) (by assumption) ?_
          rotate_left
          · intro w hSw
            (try dsimp only at hSw)
            first | (go_simp; done) | (go_simp; with_reducible rfl)
          (try simp only [Act.put, List.setIfInBounds_toArray, List.set_cons_zero, List.set_cons_succ])
          refine wpAnyH_take (i := 4) (oi := { dst := some 41, op := Op.fieldAddr 26 (Operand.tmp 3) 0, type := 0, pos := "law.go:60", after := #[], guard := none }) (v := ?_) rfl (by kernel_rfl) (by kernel_rfl) (by kernel_rfl) (fun _ _ _ h => h) (Or.inl ⟨by rfl, ?_⟩) (by assumption) ?_
          rotate_left
          · intro w hSw
            (try dsimp only at hSw)
            first | (go_simp; done) | (go_simp; with_reducible rfl)
          (try simp only [Act.put, List.setIfInBounds_toArray, List.set_cons_zero, List.set_cons_succ])
          refine wpAnyH_take (i := 5) (oi := { dst := some 42, op := Op.load 3 (Operand.tmp 41), type := 3, pos := "law.go:60", after := #[{ on := 4, ground := Ground.data }], guard := none }) (v := ?_) rfl (by kernel_rfl) (by kernel_rfl) (by kernel_rfl) (fun _ _ _ h => h) (Or.inl ⟨by rfl, ?_⟩) (by assumption) ?_
          rotate_left
          · intro w hSw
            (try dsimp only at hSw)
            first | (go_simp; done) | (go_simp; with_reducible rfl)
          (try simp only [Act.put, List.setIfInBounds_toArray, List.set_cons_zero, List.set_cons_succ])
          refine wpAnyH_take (i := 6) (oi := { dst := some 43, op := Op.call { callee := Callee.builtin Builtin.max, args := #[Operand.tmp 40, Operand.tmp 42], argTypes := #[3, 3] }, type := 3, pos := "law.go:60", after := #[{ on := 3, ground := Ground.data }, { on := 5, ground := Ground.data }], guard := none }) (v := ?_) rfl (by kernel_rfl) (by kernel_rfl) (by kernel_rfl) (fun _ _ _ h => h) (Or.inl ⟨by rfl, ?_⟩) (by assumption) ?_
          rotate_left
          · intro w hSw
            (try dsimp only at hSw)
            first | (go_simp; done) | (go_simp; with_reducible rfl)
          (try simp only [Act.put, List.setIfInBounds_toArray, List.set_cons_zero, List.set_cons_succ])
          refine wpAnyH_take (i := 7) (oi := { dst := some 44, op := Op.binOp BinOp.neq 3 (Operand.tmp 38) (Operand.tmp 43) 3, type := 4, pos := "law.go:60", after := #[{ on := 1, ground := Ground.data }, { on := 6, ground := Ground.data }], guard := none }) (v := ?_) rfl (by kernel_rfl) (by kernel_rfl) (by kernel_rfl) (fun _ _ _ h => h) (Or.inl ⟨by rfl, ?_⟩) (by assumption) ?_
          rotate_left
          · intro w hSw
            (try dsimp only at hSw)
            first | (go_simp; done) | (go_simp; with_reducible rfl)
          (try simp only [Act.put, List.setIfInBounds_toArray, List.set_cons_zero, List.set_cons_succ])
          refine wpAnyH_take (i := 8) (oi := { dst := some 45, op := Op.move (Operand.tmp 44), type := 4, pos := "law.go:60", after := #[{ on := 7, ground := Ground.data }], guard := none }) (v := ?_) rfl (by kernel_rfl) (by kernel_rfl) (by kernel_rfl) (fun _ _ _ h => h) (Or.inl ⟨by rfl, ?_⟩) (by assumption) ?_
          rotate_left
          · intro w hSw
            (try dsimp only at hSw)
            first | (go_simp; done) | (go_simp; with_reducible rfl)
          (try simp only [Act.put, List.setIfInBounds_toArray, List.set_cons_zero, List.set_cons_succ])
          refine wpAnyH_take (i := 9) (oi := { dst := some 46, op := Op.load 26 (Operand.tmp 2), type := 26, pos := "law.go:60", after := #[{ on := 8, ground := Ground.guard }], guard := some (8, false) }) (v := ?_) rfl (by kernel_rfl) (by kernel_rfl) (by kernel_rfl) (fun _ _ _ h => h) (Or.inl ⟨by rfl, ?_⟩) (by assumption) ?_
          rotate_left
          · intro w hSw
            (try dsimp only at hSw)
            first | (go_simp; done) | (go_simp; with_reducible rfl)
          (try simp only [Act.put, List.setIfInBounds_toArray, List.set_cons_zero, List.set_cons_succ])
          refine wpAnyH_take (i := 10) (oi := { dst := some 47, op := Op.load 26 (Operand.tmp 2), type := 26, pos := "law.go:60", after := #[{ on := 8, ground := Ground.guard }], guard := some (8, false) }) (v := ?_) rfl (by kernel_rfl) (by kernel_rfl) (by kernel_rfl) (fun _ _ _ h => h) (Or.inl ⟨by rfl, ?_⟩) (by assumption) ?_
          rotate_left
          · intro w hSw
            (try dsimp only at hSw)
            first | (go_simp; done) | (go_simp; with_reducible rfl)
          (try simp only [Act.put, List.setIfInBounds_toArray, List.set_cons_zero, List.set_cons_succ])
          refine wpAnyH_take (i := 12) (oi := { dst := some 49, op := Op.load 26 (Operand.tmp 2), type := 26, pos := "law.go:60", after := #[{ on := 8, ground := Ground.guard }], guard := some (8, false) }) (v := ?_) rfl (by kernel_rfl) (by kernel_rfl) (by kernel_rfl) (fun _ _ _ h => h) (Or.inl ⟨by rfl, ?_⟩) (by assumption) ?_
          rotate_left
          · intro w hSw
            (try dsimp only at hSw)
            first | (go_simp; done) | (go_simp; with_reducible rfl)
          (try simp only [Act.put, List.setIfInBounds_toArray, List.set_cons_zero, List.set_cons_succ])
          refine wpAnyH_ready (rs := [11]) (by kernel_rfl) (by simp) ?_
          refine AllReadyH.cons (o := { dst := some 48, op := Op.call { callee := Callee.value (Operand.func 25), args := #[Operand.tmp 46, Operand.tmp 47], argTypes := #[26, 26] }, type := 26, pos := "law.go:60", after := #[{ on := 9, ground := Ground.data }, { on := 10, ground := Ground.data }, { on := 8, ground := Ground.chain }, { on := 8, ground := Ground.guard }], guard := some (8, false) }) rfl (fun K hK => ?_) AllReadyH.nil
          go_simp
          refine (KM1.out _).mono ?_
          rintro e wx ⟨rfl, jx⟩
          replace nc := nc.trans (jx.mono nc.size)
          clear jx
          refine hK.out _ _ (CS.out _ nc) (fun hHeld => ?_)
          clear hK K
          (try simp only [Act.put, List.setIfInBounds_toArray, List.set_cons_zero, List.set_cons_succ])
          refine wpAnyH_take (i := 13) (oi := { dst := some 50, op := Op.binOp BinOp.neq 26 (Operand.tmp 48) (Operand.tmp 49) 26, type := 4, pos := "law.go:60", after := #[{ on := 11, ground := Ground.data }, { on := 12, ground := Ground.data }, { on := 8, ground := Ground.guard }], guard := some (8, false) }) (v := ?_) rfl (by kernel_rfl) (by kernel_rfl) (by kernel_rfl) (fun _ _ _ h => h) (Or.inl ⟨by rfl, ?_⟩) (by assumption) ?_
          rotate_left
          · intro w hSw
            (try dsimp only at hSw)
            first | (go_simp; done) | (go_simp; with_reducible rfl)
          (try simp only [Act.put, List.setIfInBounds_toArray, List.set_cons_zero, List.set_cons_succ])
          refine wpAnyH_take (i := 14) (oi := { dst := some 51, op := Op.pick (Operand.tmp 45) (Operand.const (Value.bool true)) (Operand.tmp 50), type := 4, pos := "law.go:60", after := #[{ on := 8, ground := Ground.data }, { on := 13, ground := Ground.data }], guard := none }) (v := ?_) rfl (by kernel_rfl) (by kernel_rfl) (by kernel_rfl) (fun _ _ _ h => h) (Or.inl ⟨by rfl, ?_⟩) (by assumption) ?_
          rotate_left
          · intro w hSw
            (try dsimp only at hSw)
            first | (go_simp; done) | (go_simp; with_reducible rfl)
          (try simp only [Act.put, List.setIfInBounds_toArray, List.set_cons_zero, List.set_cons_succ])
          refine wpAnyH_take (i := 15) (oi := { dst := some 52, op := Op.move (Operand.tmp 51), type := 4, pos := "law.go:60", after := #[{ on := 14, ground := Ground.data }, { on := 11, ground := Ground.chain }], guard := none }) (v := ?_) rfl (by kernel_rfl) (by kernel_rfl) (by kernel_rfl) (fun _ _ _ h => h) (Or.inl ⟨by rfl, ?_⟩) (by assumption) ?_
          rotate_left
          · intro w hSw
            (try dsimp only at hSw)
            first | (go_simp; done) | (go_simp; with_reducible rfl)
          (try simp only [Act.put, List.setIfInBounds_toArray, List.set_cons_zero, List.set_cons_succ])
          refine wpAnyH_take (i := 16) (oi := { dst := some 53, op := Op.load 26 (Operand.tmp 5), type := 26, pos := "law.go:60", after := #[{ on := 15, ground := Ground.guard }], guard := some (15, false) }) (v := ?_) rfl (by kernel_rfl) (by kernel_rfl) (by kernel_rfl) (fun _ _ _ h => h) (Or.inl ⟨by rfl, ?_⟩) (by assumption) ?_
          rotate_left
          · intro w hSw
            (try dsimp only at hSw)
            first | (go_simp; done) | (go_simp; with_reducible rfl)
          (try simp only [Act.put, List.setIfInBounds_toArray, List.set_cons_zero, List.set_cons_succ])
          refine wpAnyH_take (i := 17) (oi := { dst := some 54, op := Op.load 26 (Operand.tmp 3), type := 26, pos := "law.go:60", after := #[{ on := 15, ground := Ground.guard }], guard := some (15, false) }) (v := ?_) rfl (by kernel_rfl) (by kernel_rfl) (by kernel_rfl) (fun _ _ _ h => h) (Or.inl ⟨by rfl, ?_⟩) (by assumption) ?_
          rotate_left
          · intro w hSw
            (try dsimp only at hSw)
            first | (go_simp; done) | (go_simp; with_reducible rfl)
          (try simp only [Act.put, List.setIfInBounds_toArray, List.set_cons_zero, List.set_cons_succ])
          refine wpAnyH_take (i := 19) (oi := { dst := some 56, op := Op.load 26 (Operand.tmp 5), type := 26, pos := "law.go:60", after := #[{ on := 15, ground := Ground.guard }], guard := some (15, false) }) (v := ?_) rfl (by kernel_rfl) (by kernel_rfl) (by kernel_rfl) (fun _ _ _ h => h) (Or.inl ⟨by rfl, ?_⟩) (by assumption) ?_
          rotate_left
          · intro w hSw
            (try dsimp only at hSw)
            first | (go_simp; done) | (go_simp; with_reducible rfl)
          (try simp only [Act.put, List.setIfInBounds_toArray, List.set_cons_zero, List.set_cons_succ])
          refine wpAnyH_ready (rs := [18]) (by kernel_rfl) (by simp) ?_
          refine AllReadyH.cons (o := { dst := some 55, op := Op.call { callee := Callee.value (Operand.func 25), args := #[Operand.tmp 53, Operand.tmp 54], argTypes := #[26, 26] }, type := 26, pos := "law.go:60", after := #[{ on := 16, ground := Ground.data }, { on := 17, ground := Ground.data }, { on := 15, ground := Ground.chain }, { on := 15, ground := Ground.guard }], guard := some (15, false) }) rfl (fun K hK => ?_) AllReadyH.nil
          go_simp
          refine (KM2.out _).mono ?_
          rintro e wx ⟨rfl, jx⟩
          replace nc := nc.trans (jx.mono nc.size)
          clear jx
          refine hK.out _ _ (CS.out _ nc) (fun hHeld => ?_)
          clear hK K
          (try simp only [Act.put, List.setIfInBounds_toArray, List.set_cons_zero, List.set_cons_succ])
          refine wpAnyH_take (i := 20) (oi := { dst := some 57, op := Op.binOp BinOp.neq 26 (Operand.tmp 55) (Operand.tmp 56) 26, type := 4, pos := "law.go:60", after := #[{ on := 18, ground := Ground.data }, { on := 19, ground := Ground.data }, { on := 15, ground := Ground.guard }], guard := some (15, false) }) (v := ?_) rfl (by kernel_rfl) (by kernel_rfl) (by kernel_rfl) (fun _ _ _ h => h) (Or.inl ⟨by rfl, ?_⟩) (by assumption) ?_
          rotate_left
          · intro w hSw
            (try dsimp only at hSw)
            first | (go_simp; done) | (go_simp; with_reducible rfl)
          (try simp only [Act.put, List.setIfInBounds_toArray, List.set_cons_zero, List.set_cons_succ])
          refine wpAnyH_take (i := 21) (oi := { dst := some 58, op := Op.pick (Operand.tmp 52) (Operand.const (Value.bool true)) (Operand.tmp 57), type := 4, pos := "law.go:60", after := #[{ on := 15, ground := Ground.data }, { on := 20, ground := Ground.data }], guard := none }) (v := ?_) rfl (by kernel_rfl) (by kernel_rfl) (by kernel_rfl) (fun _ _ _ h => h) (Or.inl ⟨by rfl, ?_⟩) (by assumption) ?_
          rotate_left
          · intro w hSw
            (try dsimp only at hSw)
            first | (go_simp; done) | (go_simp; with_reducible rfl)
          (try simp only [Act.put, List.setIfInBounds_toArray, List.set_cons_zero, List.set_cons_succ])
          refine wpAnyH_done (by kernel_rfl) ?_ _
          go_wp2_with fail
          go_meet
          exact ⟨rfl, nc⟩
        · obtain rfl : m0 = t0 := by omega
          have CS := CS0
          clear hmv CS0
          refine wp_region_held_drew (S := fun W => (ldS 26 (.pointer (some ⟨w.heap.size, 0, none⟩))).run Try.prog W = .ok (tabV T) W ∧ (ldS 26 (.pointer (some ⟨w.heap.size + 1, 0, none⟩))).run Try.prog W = .ok (tabV U) W ∧ (ldS 26 (.pointer (some ⟨A1, 0, none⟩))).run Try.prog W = .ok (tabV M) W ∧ W.cell? ⟨w.heap.size, 0, none⟩ = some (.int .i64 m0) ∧ W.cell? ⟨w.heap.size + 1, 0, none⟩ = some (.int .i64 u0) ∧ W.cell? ⟨A1, 0, none⟩ = some (.int .i64 m0)) (by kernel_rfl) (CS.out _ nc) (fun hHeld => ?_)
          refine wpAnyH_take (i := 0) (oi := { dst := some 37, op := Op.fieldAddr 26 (Operand.tmp 5) 0, type := 0, pos := "law.go:60", after := #[], guard := none }) (v := ?_) rfl (by kernel_rfl) (by kernel_rfl) (by kernel_rfl) (fun _ _ _ h => h) (Or.inl ⟨by rfl, ?_⟩) (by assumption) ?_
          rotate_left
          · intro w hSw
            (try dsimp only at hSw)
            first | (go_simp; done) | (go_simp; with_reducible rfl)
          (try simp only [Act.put, List.setIfInBounds_toArray, List.set_cons_zero, List.set_cons_succ])
          refine wpAnyH_take (i := 1) (oi := { dst := some 38, op := Op.load 3 (Operand.tmp 37), type := 3, pos := "law.go:60", after := #[{ on := 0, ground := Ground.data }], guard := none }) (v := ?_) rfl (by kernel_rfl) (by kernel_rfl) (by kernel_rfl) (fun _ _ _ h => h) (Or.inl ⟨by rfl, ?_⟩) (by assumption) ?_
          rotate_left
          · intro w hSw
            (try dsimp only at hSw)
            first | (go_simp; done) | (go_simp; with_reducible rfl)
          (try simp only [Act.put, List.setIfInBounds_toArray, List.set_cons_zero, List.set_cons_succ])
          refine wpAnyH_take (i := 2) (oi := { dst := some 39, op := Op.fieldAddr 26 (Operand.tmp 2) 0, type := 0, pos := "law.go:60", after := #[], guard := none }) (v := ?_) rfl (by kernel_rfl) (by kernel_rfl) (by kernel_rfl) (fun _ _ _ h => h) (Or.inl ⟨by rfl, ?_⟩) (by assumption) ?_
          rotate_left
          · intro w hSw
            (try dsimp only at hSw)
            first | (go_simp; done) | (go_simp; with_reducible rfl)
          (try simp only [Act.put, List.setIfInBounds_toArray, List.set_cons_zero, List.set_cons_succ])
          refine wpAnyH_take (i := 3) (oi := { dst := some 40, op := Op.load 3 (Operand.tmp 39), type := 3, pos := "law.go:60", after := #[{ on := 2, ground := Ground.data }], guard := none }) (v := ?_) rfl (by kernel_rfl) (by kernel_rfl) (by kernel_rfl) (fun _ _ _ h => h) (Or.inl ⟨by rfl, ?_⟩) (by assumption) ?_
          rotate_left
          · intro w hSw
            (try dsimp only at hSw)
            first | (go_simp; done) | (go_simp; with_reducible rfl)
          (try simp only [Act.put, List.setIfInBounds_toArray, List.set_cons_zero, List.set_cons_succ])
          refine wpAnyH_take (i := 4) (oi := { dst := some 41, op := Op.fieldAddr 26 (Operand.tmp 3) 0, type := 0, pos := "law.go:60", after := #[], guard := none }) (v := ?_) rfl (by kernel_rfl) (by kernel_rfl) (by kernel_rfl) (fun _ _ _ h => h) (Or.inl ⟨by rfl, ?_⟩) (by assumption) ?_
          rotate_left
          · intro w hSw
            (try dsimp only at hSw)
            first | (go_simp; done) | (go_simp; with_reducible rfl)
          (try simp only [Act.put, List.setIfInBounds_toArray, List.set_cons_zero, List.set_cons_succ])
          refine wpAnyH_take (i := 5) (oi := { dst := some 42, op := Op.load 3 (Operand.tmp 41), type := 3, pos := "law.go:60", after := #[{ on := 4, ground := Ground.data }], guard := none }) (v := ?_) rfl (by kernel_rfl) (by kernel_rfl) (by kernel_rfl) (fun _ _ _ h => h) (Or.inl ⟨by rfl, ?_⟩) (by assumption) ?_
          rotate_left
          · intro w hSw
            (try dsimp only at hSw)
            first | (go_simp; done) | (go_simp; with_reducible rfl)
          (try simp only [Act.put, List.setIfInBounds_toArray, List.set_cons_zero, List.set_cons_succ])
          refine wpAnyH_take (i := 6) (oi := { dst := some 43, op := Op.call { callee := Callee.builtin Builtin.max, args := #[Operand.tmp 40, Operand.tmp 42], argTypes := #[3, 3] }, type := 3, pos := "law.go:60", after := #[{ on := 3, ground := Ground.data }, { on := 5, ground := Ground.data }], guard := none }) (v := ?_) rfl (by kernel_rfl) (by kernel_rfl) (by kernel_rfl) (fun _ _ _ h => h) (Or.inl ⟨by rfl, ?_⟩) (by assumption) ?_
          rotate_left
          · intro w hSw
            (try dsimp only at hSw)
            first | (go_simp; done) | (go_simp; with_reducible rfl)
          (try simp only [Act.put, List.setIfInBounds_toArray, List.set_cons_zero, List.set_cons_succ])
          refine wpAnyH_take (i := 7) (oi := { dst := some 44, op := Op.binOp BinOp.neq 3 (Operand.tmp 38) (Operand.tmp 43) 3, type := 4, pos := "law.go:60", after := #[{ on := 1, ground := Ground.data }, { on := 6, ground := Ground.data }], guard := none }) (v := ?_) rfl (by kernel_rfl) (by kernel_rfl) (by kernel_rfl) (fun _ _ _ h => h) (Or.inl ⟨by rfl, ?_⟩) (by assumption) ?_
          rotate_left
          · intro w hSw
            (try dsimp only at hSw)
            first | (go_simp; done) | (go_simp; with_reducible rfl)
          (try simp only [Act.put, List.setIfInBounds_toArray, List.set_cons_zero, List.set_cons_succ])
          refine wpAnyH_take (i := 8) (oi := { dst := some 45, op := Op.move (Operand.tmp 44), type := 4, pos := "law.go:60", after := #[{ on := 7, ground := Ground.data }], guard := none }) (v := ?_) rfl (by kernel_rfl) (by kernel_rfl) (by kernel_rfl) (fun _ _ _ h => h) (Or.inl ⟨by rfl, ?_⟩) (by assumption) ?_
          rotate_left
          · intro w hSw
            (try dsimp only at hSw)
            first | (go_simp; done) | (go_simp; with_reducible rfl)
          (try simp only [Act.put, List.setIfInBounds_toArray, List.set_cons_zero, List.set_cons_succ])
          refine wpAnyH_take (i := 9) (oi := { dst := some 46, op := Op.load 26 (Operand.tmp 2), type := 26, pos := "law.go:60", after := #[{ on := 8, ground := Ground.guard }], guard := some (8, false) }) (v := ?_) rfl (by kernel_rfl) (by kernel_rfl) (by kernel_rfl) (fun _ _ _ h => h) (Or.inl ⟨by rfl, ?_⟩) (by assumption) ?_
          rotate_left
          · intro w hSw
            (try dsimp only at hSw)
            first | (go_simp; done) | (go_simp; with_reducible rfl)
          (try simp only [Act.put, List.setIfInBounds_toArray, List.set_cons_zero, List.set_cons_succ])
          refine wpAnyH_take (i := 10) (oi := { dst := some 47, op := Op.load 26 (Operand.tmp 2), type := 26, pos := "law.go:60", after := #[{ on := 8, ground := Ground.guard }], guard := some (8, false) }) (v := ?_) rfl (by kernel_rfl) (by kernel_rfl) (by kernel_rfl) (fun _ _ _ h => h) (Or.inl ⟨by rfl, ?_⟩) (by assumption) ?_
          rotate_left
          · intro w hSw
            (try dsimp only at hSw)
            first | (go_simp; done) | (go_simp; with_reducible rfl)
          (try simp only [Act.put, List.setIfInBounds_toArray, List.set_cons_zero, List.set_cons_succ])
          refine wpAnyH_take (i := 12) (oi := { dst := some 49, op := Op.load 26 (Operand.tmp 2), type := 26, pos := "law.go:60", after := #[{ on := 8, ground := Ground.guard }], guard := some (8, false) }) (v := ?_) rfl (by kernel_rfl) (by kernel_rfl) (by kernel_rfl) (fun _ _ _ h => h) (Or.inl ⟨by rfl, ?_⟩) (by assumption) ?_
          rotate_left
          · intro w hSw
            (try dsimp only at hSw)
            first | (go_simp; done) | (go_simp; with_reducible rfl)
          (try simp only [Act.put, List.setIfInBounds_toArray, List.set_cons_zero, List.set_cons_succ])
          refine wpAnyH_ready (rs := [11]) (by kernel_rfl) (by simp) ?_
          refine AllReadyH.cons (o := { dst := some 48, op := Op.call { callee := Callee.value (Operand.func 25), args := #[Operand.tmp 46, Operand.tmp 47], argTypes := #[26, 26] }, type := 26, pos := "law.go:60", after := #[{ on := 9, ground := Ground.data }, { on := 10, ground := Ground.data }, { on := 8, ground := Ground.chain }, { on := 8, ground := Ground.guard }], guard := some (8, false) }) rfl (fun K hK => ?_) AllReadyH.nil
          go_simp
          refine (KM1.out _).mono ?_
          rintro e wx ⟨rfl, jx⟩
          replace nc := nc.trans (jx.mono nc.size)
          clear jx
          refine hK.out _ _ (CS.out _ nc) (fun hHeld => ?_)
          clear hK K
          (try simp only [Act.put, List.setIfInBounds_toArray, List.set_cons_zero, List.set_cons_succ])
          refine wpAnyH_take (i := 13) (oi := { dst := some 50, op := Op.binOp BinOp.neq 26 (Operand.tmp 48) (Operand.tmp 49) 26, type := 4, pos := "law.go:60", after := #[{ on := 11, ground := Ground.data }, { on := 12, ground := Ground.data }, { on := 8, ground := Ground.guard }], guard := some (8, false) }) (v := ?_) rfl (by kernel_rfl) (by kernel_rfl) (by kernel_rfl) (fun _ _ _ h => h) (Or.inl ⟨by rfl, ?_⟩) (by assumption) ?_
          rotate_left
          · intro w hSw
            (try dsimp only at hSw)
            first | (go_simp; done) | (go_simp; with_reducible rfl)
          (try simp only [Act.put, List.setIfInBounds_toArray, List.set_cons_zero, List.set_cons_succ])
          refine wpAnyH_take (i := 14) (oi := { dst := some 51, op := Op.pick (Operand.tmp 45) (Operand.const (Value.bool true)) (Operand.tmp 50), type := 4, pos := "law.go:60", after := #[{ on := 8, ground := Ground.data }, { on := 13, ground := Ground.data }], guard := none }) (v := ?_) rfl (by kernel_rfl) (by kernel_rfl) (by kernel_rfl) (fun _ _ _ h => h) (Or.inl ⟨by rfl, ?_⟩) (by assumption) ?_
          rotate_left
          · intro w hSw
            (try dsimp only at hSw)
            first | (go_simp; done) | (go_simp; with_reducible rfl)
          (try simp only [Act.put, List.setIfInBounds_toArray, List.set_cons_zero, List.set_cons_succ])
          refine wpAnyH_take (i := 15) (oi := { dst := some 52, op := Op.move (Operand.tmp 51), type := 4, pos := "law.go:60", after := #[{ on := 14, ground := Ground.data }, { on := 11, ground := Ground.chain }], guard := none }) (v := ?_) rfl (by kernel_rfl) (by kernel_rfl) (by kernel_rfl) (fun _ _ _ h => h) (Or.inl ⟨by rfl, ?_⟩) (by assumption) ?_
          rotate_left
          · intro w hSw
            (try dsimp only at hSw)
            first | (go_simp; done) | (go_simp; with_reducible rfl)
          (try simp only [Act.put, List.setIfInBounds_toArray, List.set_cons_zero, List.set_cons_succ])
          refine wpAnyH_take (i := 16) (oi := { dst := some 53, op := Op.load 26 (Operand.tmp 5), type := 26, pos := "law.go:60", after := #[{ on := 15, ground := Ground.guard }], guard := some (15, false) }) (v := ?_) rfl (by kernel_rfl) (by kernel_rfl) (by kernel_rfl) (fun _ _ _ h => h) (Or.inl ⟨by rfl, ?_⟩) (by assumption) ?_
          rotate_left
          · intro w hSw
            (try dsimp only at hSw)
            first | (go_simp; done) | (go_simp; with_reducible rfl)
          (try simp only [Act.put, List.setIfInBounds_toArray, List.set_cons_zero, List.set_cons_succ])
          refine wpAnyH_take (i := 17) (oi := { dst := some 54, op := Op.load 26 (Operand.tmp 3), type := 26, pos := "law.go:60", after := #[{ on := 15, ground := Ground.guard }], guard := some (15, false) }) (v := ?_) rfl (by kernel_rfl) (by kernel_rfl) (by kernel_rfl) (fun _ _ _ h => h) (Or.inl ⟨by rfl, ?_⟩) (by assumption) ?_
          rotate_left
          · intro w hSw
            (try dsimp only at hSw)
            first | (go_simp; done) | (go_simp; with_reducible rfl)
          (try simp only [Act.put, List.setIfInBounds_toArray, List.set_cons_zero, List.set_cons_succ])
          refine wpAnyH_take (i := 19) (oi := { dst := some 56, op := Op.load 26 (Operand.tmp 5), type := 26, pos := "law.go:60", after := #[{ on := 15, ground := Ground.guard }], guard := some (15, false) }) (v := ?_) rfl (by kernel_rfl) (by kernel_rfl) (by kernel_rfl) (fun _ _ _ h => h) (Or.inl ⟨by rfl, ?_⟩) (by assumption) ?_
          rotate_left
          · intro w hSw
            (try dsimp only at hSw)
            first | (go_simp; done) | (go_simp; with_reducible rfl)
          (try simp only [Act.put, List.setIfInBounds_toArray, List.set_cons_zero, List.set_cons_succ])
          refine wpAnyH_ready (rs := [18]) (by kernel_rfl) (by simp) ?_
          refine AllReadyH.cons (o := { dst := some 55, op := Op.call { callee := Callee.value (Operand.func 25), args := #[Operand.tmp 53, Operand.tmp 54], argTypes := #[26, 26] }, type := 26, pos := "law.go:60", after := #[{ on := 16, ground := Ground.data }, { on := 17, ground := Ground.data }, { on := 15, ground := Ground.chain }, { on := 15, ground := Ground.guard }], guard := some (15, false) }) rfl (fun K hK => ?_) AllReadyH.nil
          go_simp
          refine (KM2.out _).mono ?_
          rintro e wx ⟨rfl, jx⟩
          replace nc := nc.trans (jx.mono nc.size)
          clear jx
          refine hK.out _ _ (CS.out _ nc) (fun hHeld => ?_)
          clear hK K
          (try simp only [Act.put, List.setIfInBounds_toArray, List.set_cons_zero, List.set_cons_succ])
          refine wpAnyH_take (i := 20) (oi := { dst := some 57, op := Op.binOp BinOp.neq 26 (Operand.tmp 55) (Operand.tmp 56) 26, type := 4, pos := "law.go:60", after := #[{ on := 18, ground := Ground.data }, { on := 19, ground := Ground.data }, { on := 15, ground := Ground.guard }], guard := some (15, false) }) (v := ?_) rfl (by kernel_rfl) (by kernel_rfl) (by kernel_rfl) (fun _ _ _ h => h) (Or.inl ⟨by rfl, ?_⟩) (by assumption) ?_
          rotate_left
          · intro w hSw
            (try dsimp only at hSw)
            first | (go_simp; done) | (go_simp; with_reducible rfl)
          (try simp only [Act.put, List.setIfInBounds_toArray, List.set_cons_zero, List.set_cons_succ])
          refine wpAnyH_take (i := 21) (oi := { dst := some 58, op := Op.pick (Operand.tmp 52) (Operand.const (Value.bool true)) (Operand.tmp 57), type := 4, pos := "law.go:60", after := #[{ on := 15, ground := Ground.data }, { on := 20, ground := Ground.data }], guard := none }) (v := ?_) rfl (by kernel_rfl) (by kernel_rfl) (by kernel_rfl) (fun _ _ _ h => h) (Or.inl ⟨by rfl, ?_⟩) (by assumption) ?_
          rotate_left
          · intro w hSw
            (try dsimp only at hSw)
            first | (go_simp; done) | (go_simp; with_reducible rfl)
          (try simp only [Act.put, List.setIfInBounds_toArray, List.set_cons_zero, List.set_cons_succ])
          refine wpAnyH_done (by kernel_rfl) ?_ _
          go_wp2_with fail
          go_meet
          exact ⟨rfl, nc⟩
      case rest =>
        obtain ⟨rfl, nd⟩ := hcut
        obtain ⟨bT, bU, bM, L6⟩ := CB.out _ nd
        have l1 := ld_tab bT
        clear hq1 hq2 CS0 CB KM1 KM2 hmv nc nd
        cases rt
        · go_wp2_with fail
          refine (KT.out _).mono ?_
          rintro e w2 ⟨rfl, m2⟩
          replace L6 := L6.trans (m2.mono L6.size)
          clear l1 m2 bT bU bM
          have HL := Lib.hid L6
          clear L6
          go_wp2_with fail
          refine (TW.out _).mono ?_
          rintro e w3 ⟨rfl, m3⟩
          have L := HL.out.trans (m3.mono HL.out.size)
          go_wp2
          go_ret
          exact ⟨rfl, L⟩
        · go_wp2_with fail
          refine (KT.out _).mono ?_
          rintro e w2 ⟨rfl, m2⟩
          replace L6 := L6.trans (m2.mono L6.size)
          replace bU := bb bU m2
          replace bM := bb bM m2
          have l2 := ld_tab bU
          clear l1 m2 bT
          cases ru
          · have HL := Lib.hid L6
            clear L6 bU bM
            go_wp2_with fail
            refine (KU.out _).mono ?_
            rintro e w3 ⟨rfl, m3⟩
            have HL3 := Lib.hid (HL.out.trans (m3.mono HL.out.size))
            clear l2 m3
            go_wp2_with fail
            refine (TW.out _).mono ?_
            rintro e w4 ⟨rfl, m4⟩
            have L := HL3.out.trans (m4.mono HL3.out.size)
            go_wp2
            go_ret
            exact ⟨rfl, L⟩
          · have hrm : rm = true := HRT.out (by simp) (by simp)
            subst hrm
            go_wp2_with fail
            refine (KU.out _).mono ?_
            rintro e w3 ⟨rfl, m3⟩
            replace L6 := L6.trans (m3.mono L6.size)
            replace bM := bb bM m3
            have l3 := ld_tab bM
            have HL := Lib.hid L6
            clear l2 m3 L6 bU bM
            go_wp2_with fail
            refine (KM.out _).mono ?_
            rintro e w4 ⟨rfl, m4⟩
            have HL3 := Lib.hid (HL.out.trans (m4.mono HL.out.size))
            clear l3 m4
            go_wp2_with fail
            refine (TW.out _).mono ?_
            rintro e w5 ⟨rfl, m5⟩
            have L := HL3.out.trans (m5.mono HL3.out.size)
            go_wp2
            go_ret
            exact ⟨rfl, L⟩
end Go.Proofs.Ytanbkbppahgbgaa
