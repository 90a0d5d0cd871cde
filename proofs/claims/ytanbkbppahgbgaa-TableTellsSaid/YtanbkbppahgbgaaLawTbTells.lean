/- 'handfastlaw10.TableTells' returns true at every two tables, entry, numbers, and leaves what lay as it lay. -/
import Derived.Test.YtanbkbppahgbgaaTbW
import Derived.Test.YtanbkbppahgbgaaTbL
namespace Go.Proofs.Ytanbkbppahgbgaa
open Go.RowKit Go.Shelf
open SumM

attribute [local go_sem] Oper.semAt_some zero_tab build_tab guard_undef
attribute [local go_sem ↓] nm_ldT nm_ldA nm_ldN nm_stT nm_stN

set_option maxRecDepth 100000 in
set_option maxHeartbeats 16000000 in
theorem tbTells_walk (T U : Nat → Int) (b : Int) (ec ep eg et : Int) (s c : Int) (w : World) (_hT : TabOk T) (_hU : TabOk U) (_hb : (Lit.int .i64 b).wf = true) (_hE : Ent.ok (ec, ep, eg, et)) (_hs : (Lit.int .u8 s).wf = true) (_hc : (Lit.int .i64 c).wf = true) :
    Calls Try.prog 3 #[tabV T, tabV U, .int .i64 b, .agg #[.int .i64 ec, .int .i64 ep, .int .i64 eg, .int .i64 et], .int .u8 s, .int .i64 c] w fun e w' => e = .returned (.bool true) ∧ Below w.heap.size w w' := by
  have bT := heap_alloc_new w (.cells (numL 65 T).toArray 26)
  have LT := (Below.refl w.heap.size w).alloc (Nat.le_refl _) (.cells (numL 65 T).toArray 26)
  have hs1 : (w.alloc (.cells (numL 65 T).toArray 26)).heap.size = w.heap.size + 1 := by simp
  go_enter Try.func3, Try.ntmps3
  go_upto_region 1 with (fail)
  generalize w.alloc (.cells (numL 65 T).toArray 26) = Wa at *
  have bU := heap_alloc_new Wa (.cells (numL 65 U).toArray 26)
  have LU := LT.alloc LT.size (.cells (numL 65 U).toArray 26)
  replace bT := (Below.heap_alloc Wa (.cells (numL 65 U).toArray 26) _ (by omega)).trans bT
  have hs2 : (Wa.alloc (.cells (numL 65 U).toArray 26)).heap.size = w.heap.size + 2 := by simp; omega
  rw [hs1] at bU
  generalize Wa.alloc (.cells (numL 65 U).toArray 26) = Wb at *
  have bE := heap_alloc_new Wb (.cells #[.int .i64 ec, .int .i64 ep, .int .i64 eg, .int .i64 et] 23)
  replace bT := (Below.heap_alloc Wb (.cells #[.int .i64 ec, .int .i64 ep, .int .i64 eg, .int .i64 et] 23) _ (by omega)).trans bT
  replace bU := (Below.heap_alloc Wb (.cells #[.int .i64 ec, .int .i64 ep, .int .i64 eg, .int .i64 et] 23) _ (by omega)).trans bU
  have L0 := LU.alloc LU.size (.cells #[.int .i64 ec, .int .i64 ep, .int .i64 eg, .int .i64 et] 23)
  rw [hs2] at bE
  generalize Wb.alloc (.cells #[.int .i64 ec, .int .i64 ep, .int .i64 eg, .int .i64 et] 23) = W0 at *
  clear LT LU hs1 hs2
  have l0 := ld_tab bT
  obtain ⟨q0, q1, q2, q3⟩ := ent_cells _ _ _ _ bE
  go_wp2_with fail
  refine (set_any T b ec ep eg et W0).mono ?_
  rintro e w1 ⟨rfl, m1⟩
  have KR9 := Lib.hid (fun W => r10Set_any T b ec ep eg et W)
  generalize setV T b (ec, ep, eg, et) = V1 at *
  generalize setN T b (ec, ep, eg, et) = n1 at *
  replace bT := bb bT m1
  replace bU := bb bU m1
  replace bE := bb bE m1
  replace L0 := L0.trans (m1.mono L0.size)
  have s0 := st_new w1 V1
  obtain ⟨bA, j1⟩ := boxT_new w1 V1
  replace bT := bb bT j1
  replace bU := bb bU j1
  replace bE := bb bE j1
  have L1 := L0.trans (j1.mono L0.size)
  clear l0 m1 L0 j1 q0 q1 q2 q3
  go_upto_region 2 with fail
  generalize (w1.alloc (.cells (numL 65 zeroT).toArray 26)).setCells w1.heap.size 0 (numL 65 (V1)) = W1 at *
  generalize w1.heap.size = A1 at *
  clear s0
  have l0 := ld_tab bT
  obtain ⟨q0, q1, q2, q3⟩ := ent_cells _ _ _ _ bE
  go_wp2_with fail
  refine (KR9.out W1).mono ?_
  rintro e w2 ⟨rfl, m2⟩
  replace bT := bb bT m2
  replace bU := bb bU m2
  replace bA := bb bA m2
  replace L1 := L1.trans (m2.mono L1.size)
  have s0 := st_new w2 V1
  obtain ⟨bB, j2⟩ := boxT_new w2 V1
  replace bT := bb bT j2
  replace bU := bb bU j2
  replace bA := bb bA j2
  have L2 := L1.trans (j2.mono L1.size)
  clear l0 m2 L1 j2 q0 q1 q2 q3 KR9 bE
  go_upto_region 3 with fail
  generalize (w2.alloc (.cells (numL 65 zeroT).toArray 26)).setCells w2.heap.size 0 (numL 65 (V1)) = W2 at *
  generalize w2.heap.size = A2 at *
  clear s0
  have l0 := ld_tab bT
  go_wp2_with fail
  refine (row_any T b W2).mono ?_
  rintro e w3 ⟨rfl, m3⟩
  have KR10 := Lib.hid (fun W => r10Row_any T b W)
  generalize rwT T b = r at *
  obtain ⟨⟨x0, x1, x2, x3⟩, ok⟩ := r
  replace bT := bb bT m3
  replace bU := bb bU m3
  replace bA := bb bA m3
  replace bB := bb bB m3
  replace L2 := L2.trans (m3.mono L2.size)
  have hd := heap_alloc_new w3 (.cells #[.int .i64 0, .int .i64 0, .int .i64 0, .int .i64 0] 23)
  obtain ⟨z0, z1, z2, z3⟩ := ent_cells _ _ _ _ hd
  have f0 := ent_frozen hd 0
  have f1 := ent_frozen hd 1
  have f2 := ent_frozen hd 2
  have f3 := ent_frozen hd 3
  clear hd l0 m3
  go_upto_region 4 with fail
  have bR := heap_alloc_new w3 (.cells #[.int .i64 x0, .int .i64 x1, .int .i64 x2, .int .i64 x3] 23)
  have j := (Below.refl w3.heap.size w3).alloc (Nat.le_refl _) (.cells #[.int .i64 x0, .int .i64 x1, .int .i64 x2, .int .i64 x3] 23)
  replace bT := bb bT j
  replace bU := bb bU j
  replace bA := bb bA j
  replace bB := bb bB j
  have L3 := L2.trans (j.mono L2.size)
  clear z0 z1 z2 z3 f0 f1 f2 f3 j L2
  generalize w3.alloc (.cells #[.int .i64 x0, .int .i64 x1, .int .i64 x2, .int .i64 x3] 23) = W3 at *
  generalize w3.heap.size = A3 at *
  have l0 := ld_tab bT
  go_wp2_with fail
  refine (KR10.out W3).mono ?_
  rintro e w4 ⟨rfl, m4⟩
  replace bT := bb bT m4
  replace bU := bb bU m4
  replace bA := bb bA m4
  replace bB := bb bB m4
  replace bR := bb bR m4
  replace L3 := L3.trans (m4.mono L3.size)
  have hd := heap_alloc_new w4 (.cells #[.int .i64 0, .int .i64 0, .int .i64 0, .int .i64 0] 23)
  obtain ⟨z0, z1, z2, z3⟩ := ent_cells _ _ _ _ hd
  have f0 := ent_frozen hd 0
  have f1 := ent_frozen hd 1
  have f2 := ent_frozen hd 2
  have f3 := ent_frozen hd 3
  clear hd l0 m4 KR10
  go_upto_region 5 with fail
  have bS := heap_alloc_new w4 (.cells #[.int .i64 x0, .int .i64 x1, .int .i64 x2, .int .i64 x3] 23)
  have j := (Below.refl w4.heap.size w4).alloc (Nat.le_refl _) (.cells #[.int .i64 x0, .int .i64 x1, .int .i64 x2, .int .i64 x3] 23)
  replace bT := bb bT j
  replace bU := bb bU j
  replace bA := bb bA j
  replace bB := bb bB j
  replace bR := bb bR j
  have L4 := L3.trans (j.mono L3.size)
  clear z0 z1 z2 z3 f0 f1 f2 f3 j L3
  generalize w4.alloc (.cells #[.int .i64 x0, .int .i64 x1, .int .i64 x2, .int .i64 x3] 23) = W4 at *
  generalize w4.heap.size = A4 at *
  have KR := Lib.hid (fun W => right_any T W)
  have KR9 := Lib.hid (fun W => r10Right_any T W)
  have KN := Lib.hid new_any
  have KN9 := Lib.hid r10New_any
  have hq1 : ∀ W : World, (Go.binOp .neq 26 (tabV V1) (tabV V1)).run Try.prog W = .ok (.bool false) W := fun W => by rw [neq_tab, eqN_refl]; rfl
  have hq2 : ∀ W : World, (Go.binOp .neq 26 (tabV newT) (tabV newT)).run Try.prog W = .ok (.bool false) W := fun W => by rw [neq_tab, eqN_refl]; rfl
  have hq3 : ∀ W : World, (Go.binOp .neq 23 (.agg #[.int .i64 x0, .int .i64 x1, .int .i64 x2, .int .i64 x3]) (.agg #[.int .i64 x0, .int .i64 x1, .int .i64 x2, .int .i64 x3])).run Try.prog W = .ok (.bool false) W := fun W => by rw [run_neE, eqE_same]; rfl
  have hq4 : (ok != ok) = false := by simp
  have hq5 : (n1 != n1) = false := by simp
  have hq6 : (rgT T != rgT T) = false := by simp
  have nc := (Below.refl W4.heap.size W4).drew
  have CS := Lib.hid (fun W (m : Below W4.heap.size W4 W) => show (ldS 26 (.pointer (some ⟨A1, 0, none⟩))).run Try.prog W = .ok (tabV V1) W ∧ (ldS 26 (.pointer (some ⟨A2, 0, none⟩))).run Try.prog W = .ok (tabV V1) W ∧ (ldS 26 (.pointer (some ⟨w.heap.size, 0, none⟩))).run Try.prog W = .ok (tabV T) W ∧ W.cell? ⟨A3, 0, none⟩ = some (.int .i64 x0) ∧ W.cell? ⟨A3, 1, none⟩ = some (.int .i64 x1) ∧ W.cell? ⟨A3, 2, none⟩ = some (.int .i64 x2) ∧ W.cell? ⟨A3, 3, none⟩ = some (.int .i64 x3) ∧ W.cell? ⟨A4, 0, none⟩ = some (.int .i64 x0) ∧ W.cell? ⟨A4, 1, none⟩ = some (.int .i64 x1) ∧ W.cell? ⟨A4, 2, none⟩ = some (.int .i64 x2) ∧ W.cell? ⟨A4, 3, none⟩ = some (.int .i64 x3) from
    ⟨ld_tab (bb bA m), ld_tab (bb bB m), ld_tab (bb bT m), (ent_cells _ _ _ _ (bb bR m)).1, (ent_cells _ _ _ _ (bb bR m)).2.1, (ent_cells _ _ _ _ (bb bR m)).2.2.1, (ent_cells _ _ _ _ (bb bR m)).2.2.2, ent_cells _ _ _ _ (bb bS m)⟩)
  have CB := Lib.hid (fun W (m : Below W4.heap.size W4 W) => And.intro (bb bT m) (And.intro (bb bU m) (L4.trans (m.mono L4.size))))
  clear bT bU bA bB bR bS L4
  generalize rgT T = rr at *
  generalize newT = tn at *
  refine wp_region_held_drew (S := fun W => (ldS 26 (.pointer (some ⟨A1, 0, none⟩))).run Try.prog W = .ok (tabV V1) W ∧ (ldS 26 (.pointer (some ⟨A2, 0, none⟩))).run Try.prog W = .ok (tabV V1) W ∧ (ldS 26 (.pointer (some ⟨w.heap.size, 0, none⟩))).run Try.prog W = .ok (tabV T) W ∧ W.cell? ⟨A3, 0, none⟩ = some (.int .i64 x0) ∧ W.cell? ⟨A3, 1, none⟩ = some (.int .i64 x1) ∧ W.cell? ⟨A3, 2, none⟩ = some (.int .i64 x2) ∧ W.cell? ⟨A3, 3, none⟩ = some (.int .i64 x3) ∧ W.cell? ⟨A4, 0, none⟩ = some (.int .i64 x0) ∧ W.cell? ⟨A4, 1, none⟩ = some (.int .i64 x1) ∧ W.cell? ⟨A4, 2, none⟩ = some (.int .i64 x2) ∧ W.cell? ⟨A4, 3, none⟩ = some (.int .i64 x3)) (by kernel_rfl) (CS.out _ nc) (fun hHeld => ?_)
  refine wpAnyH_take (i := 0) (oi := { dst := some 47, op := Op.load 26 (Operand.tmp 13), type := 26, pos := "law.go:28", after := #[], guard := none }) (v := ?_) rfl (by kernel_rfl) (by kernel_rfl) (by kernel_rfl) (fun _ _ _ h => h) (Or.inl ⟨by rfl, ?_⟩) (by assumption) ?_
  rotate_left
  · intro w hSw
    (try dsimp only at hSw)
    first | (go_simp; done) | (go_simp; with_reducible rfl)
  (try simp only [Act.put, List.setIfInBounds_toArray, List.set_cons_zero, List.set_cons_succ])
  refine wpAnyH_take (i := 1) (oi := { dst := some 48, op := Op.load 26 (Operand.tmp 15), type := 26, pos := "law.go:28", after := #[], guard := none }) (v := ?_) rfl (by kernel_rfl) (by kernel_rfl) (by kernel_rfl) (fun _ _ _ h => h) (Or.inl ⟨by rfl, ?_⟩) (by assumption) ?_
  rotate_left
  · intro w hSw
    (try dsimp only at hSw)
    first | (go_simp; done) | (go_simp; with_reducible rfl)
  (try simp only [Act.put, List.setIfInBounds_toArray, List.set_cons_zero, List.set_cons_succ])
  refine wpAnyH_take (i := 2) (oi := { dst := some 49, op := Op.binOp BinOp.neq 26 (Operand.tmp 47) (Operand.tmp 48) 26, type := 4, pos := "law.go:28", after := #[{ on := 0, ground := Ground.data }, { on := 1, ground := Ground.data }], guard := none }) (v := ?_) rfl (by kernel_rfl) (by kernel_rfl) (by kernel_rfl) (fun _ _ _ h => h) (Or.inl ⟨by rfl, ?_⟩) (by assumption) ?_
  rotate_left
  · intro w hSw
    (try dsimp only at hSw)
    first | (go_simp; done) | (go_simp; with_reducible rfl)
  (try simp only [Act.put, List.setIfInBounds_toArray, List.set_cons_zero, List.set_cons_succ])
  refine wpAnyH_take (i := 3) (oi := { dst := some 50, op := Op.move (Operand.tmp 49), type := 4, pos := "law.go:28", after := #[{ on := 2, ground := Ground.data }], guard := none }) (v := ?_) rfl (by kernel_rfl) (by kernel_rfl) (by kernel_rfl) (fun _ _ _ h => h) (Or.inl ⟨by rfl, ?_⟩) (by assumption) ?_
  rotate_left
  · intro w hSw
    (try dsimp only at hSw)
    first | (go_simp; done) | (go_simp; with_reducible rfl)
  (try simp only [Act.put, List.setIfInBounds_toArray, List.set_cons_zero, List.set_cons_succ])
  refine wpAnyH_take (i := 4) (oi := { dst := some 51, op := Op.move (Operand.tmp 14), type := 27, pos := "law.go:28", after := #[{ on := 3, ground := Ground.guard }], guard := some (3, false) }) (v := ?_) rfl (by kernel_rfl) (by kernel_rfl) (by kernel_rfl) (fun _ _ _ h => h) (Or.inl ⟨by rfl, ?_⟩) (by assumption) ?_
  rotate_left
  · intro w hSw
    (try dsimp only at hSw)
    first | (go_simp; done) | (go_simp; with_reducible rfl)
  (try simp only [Act.put, List.setIfInBounds_toArray, List.set_cons_zero, List.set_cons_succ])
  refine wpAnyH_take (i := 5) (oi := { dst := some 52, op := Op.move (Operand.tmp 16), type := 27, pos := "law.go:28", after := #[{ on := 3, ground := Ground.guard }], guard := some (3, false) }) (v := ?_) rfl (by kernel_rfl) (by kernel_rfl) (by kernel_rfl) (fun _ _ _ h => h) (Or.inl ⟨by rfl, ?_⟩) (by assumption) ?_
  rotate_left
  · intro w hSw
    (try dsimp only at hSw)
    first | (go_simp; done) | (go_simp; with_reducible rfl)
  (try simp only [Act.put, List.setIfInBounds_toArray, List.set_cons_zero, List.set_cons_succ])
  refine wpAnyH_take (i := 6) (oi := { dst := some 53, op := Op.binOp BinOp.neq 27 (Operand.tmp 51) (Operand.tmp 52) 27, type := 4, pos := "law.go:28", after := #[{ on := 4, ground := Ground.data }, { on := 5, ground := Ground.data }, { on := 3, ground := Ground.guard }], guard := some (3, false) }) (v := ?_) rfl (by kernel_rfl) (by kernel_rfl) (by kernel_rfl) (fun _ _ _ h => h) (Or.inl ⟨by rfl, ?_⟩) (by assumption) ?_
  rotate_left
  · intro w hSw
    (try dsimp only at hSw)
    first | (go_simp; done) | (go_simp; with_reducible rfl)
  (try simp only [Act.put, List.setIfInBounds_toArray, List.set_cons_zero, List.set_cons_succ])
  refine wpAnyH_take (i := 7) (oi := { dst := some 54, op := Op.pick (Operand.tmp 50) (Operand.const (Value.bool true)) (Operand.tmp 53), type := 4, pos := "law.go:28", after := #[{ on := 3, ground := Ground.data }, { on := 6, ground := Ground.data }], guard := none }) (v := ?_) rfl (by kernel_rfl) (by kernel_rfl) (by kernel_rfl) (fun _ _ _ h => h) (Or.inl ⟨by rfl, ?_⟩) (by assumption) ?_
  rotate_left
  · intro w hSw
    (try dsimp only at hSw)
    first | (go_simp; done) | (go_simp; with_reducible rfl)
  (try simp only [Act.put, List.setIfInBounds_toArray, List.set_cons_zero, List.set_cons_succ])
  refine wpAnyH_take (i := 8) (oi := { dst := some 55, op := Op.move (Operand.tmp 54), type := 4, pos := "law.go:28", after := #[{ on := 7, ground := Ground.data }, { on := 3, ground := Ground.chain }], guard := none }) (v := ?_) rfl (by kernel_rfl) (by kernel_rfl) (by kernel_rfl) (fun _ _ _ h => h) (Or.inl ⟨by rfl, ?_⟩) (by assumption) ?_
  rotate_left
  · intro w hSw
    (try dsimp only at hSw)
    first | (go_simp; done) | (go_simp; with_reducible rfl)
  (try simp only [Act.put, List.setIfInBounds_toArray, List.set_cons_zero, List.set_cons_succ])
  refine wpAnyH_take (i := 9) (oi := { dst := some 56, op := Op.load 23 (Operand.tmp 17), type := 23, pos := "law.go:28", after := #[{ on := 8, ground := Ground.guard }], guard := some (8, false) }) (v := ?_) rfl (by kernel_rfl) (by kernel_rfl) (by kernel_rfl) (fun _ _ _ h => h) (Or.inl ⟨by rfl, ?_⟩) (by assumption) ?_
  rotate_left
  · intro w hSw
    (try dsimp only at hSw)
    first | (go_simp; done) | (go_simp; with_reducible rfl)
  (try simp only [Act.put, List.setIfInBounds_toArray, List.set_cons_zero, List.set_cons_succ])
  refine wpAnyH_take (i := 10) (oi := { dst := some 57, op := Op.load 23 (Operand.tmp 19), type := 23, pos := "law.go:28", after := #[{ on := 8, ground := Ground.guard }], guard := some (8, false) }) (v := ?_) rfl (by kernel_rfl) (by kernel_rfl) (by kernel_rfl) (fun _ _ _ h => h) (Or.inl ⟨by rfl, ?_⟩) (by assumption) ?_
  rotate_left
  · intro w hSw
    (try dsimp only at hSw)
    first | (go_simp; done) | (go_simp; with_reducible rfl)
  (try simp only [Act.put, List.setIfInBounds_toArray, List.set_cons_zero, List.set_cons_succ])
  refine wpAnyH_take (i := 11) (oi := { dst := some 58, op := Op.binOp BinOp.neq 23 (Operand.tmp 56) (Operand.tmp 57) 23, type := 4, pos := "law.go:28", after := #[{ on := 9, ground := Ground.data }, { on := 10, ground := Ground.data }, { on := 8, ground := Ground.guard }], guard := some (8, false) }) (v := ?_) rfl (by kernel_rfl) (by kernel_rfl) (by kernel_rfl) (fun _ _ _ h => h) (Or.inl ⟨by rfl, ?_⟩) (by assumption) ?_
  rotate_left
  · intro w hSw
    (try dsimp only at hSw)
    first | (go_simp; done) | (go_simp; with_reducible rfl)
  (try simp only [Act.put, List.setIfInBounds_toArray, List.set_cons_zero, List.set_cons_succ])
  refine wpAnyH_take (i := 12) (oi := { dst := some 59, op := Op.pick (Operand.tmp 55) (Operand.const (Value.bool true)) (Operand.tmp 58), type := 4, pos := "law.go:28", after := #[{ on := 8, ground := Ground.data }, { on := 11, ground := Ground.data }], guard := none }) (v := ?_) rfl (by kernel_rfl) (by kernel_rfl) (by kernel_rfl) (fun _ _ _ h => h) (Or.inl ⟨by rfl, ?_⟩) (by assumption) ?_
  rotate_left
  · intro w hSw
    (try dsimp only at hSw)
    first | (go_simp; done) | (go_simp; with_reducible rfl)
  (try simp only [Act.put, List.setIfInBounds_toArray, List.set_cons_zero, List.set_cons_succ])
  refine wpAnyH_take (i := 13) (oi := { dst := some 60, op := Op.move (Operand.tmp 59), type := 4, pos := "law.go:28", after := #[{ on := 12, ground := Ground.data }, { on := 8, ground := Ground.chain }], guard := none }) (v := ?_) rfl (by kernel_rfl) (by kernel_rfl) (by kernel_rfl) (fun _ _ _ h => h) (Or.inl ⟨by rfl, ?_⟩) (by assumption) ?_
  rotate_left
  · intro w hSw
    (try dsimp only at hSw)
    first | (go_simp; done) | (go_simp; with_reducible rfl)
  (try simp only [Act.put, List.setIfInBounds_toArray, List.set_cons_zero, List.set_cons_succ])
  refine wpAnyH_take (i := 14) (oi := { dst := some 61, op := Op.move (Operand.tmp 18), type := 4, pos := "law.go:28", after := #[{ on := 13, ground := Ground.guard }], guard := some (13, false) }) (v := ?_) rfl (by kernel_rfl) (by kernel_rfl) (by kernel_rfl) (fun _ _ _ h => h) (Or.inl ⟨by rfl, ?_⟩) (by assumption) ?_
  rotate_left
  · intro w hSw
    (try dsimp only at hSw)
    first | (go_simp; done) | (go_simp; with_reducible rfl)
  (try simp only [Act.put, List.setIfInBounds_toArray, List.set_cons_zero, List.set_cons_succ])
  refine wpAnyH_take (i := 15) (oi := { dst := some 62, op := Op.move (Operand.tmp 20), type := 4, pos := "law.go:28", after := #[{ on := 13, ground := Ground.guard }], guard := some (13, false) }) (v := ?_) rfl (by kernel_rfl) (by kernel_rfl) (by kernel_rfl) (fun _ _ _ h => h) (Or.inl ⟨by rfl, ?_⟩) (by assumption) ?_
  rotate_left
  · intro w hSw
    (try dsimp only at hSw)
    first | (go_simp; done) | (go_simp; with_reducible rfl)
  (try simp only [Act.put, List.setIfInBounds_toArray, List.set_cons_zero, List.set_cons_succ])
  refine wpAnyH_take (i := 16) (oi := { dst := some 63, op := Op.binOp BinOp.neq 4 (Operand.tmp 61) (Operand.tmp 62) 4, type := 4, pos := "law.go:28", after := #[{ on := 14, ground := Ground.data }, { on := 15, ground := Ground.data }, { on := 13, ground := Ground.guard }], guard := some (13, false) }) (v := ?_) rfl (by kernel_rfl) (by kernel_rfl) (by kernel_rfl) (fun _ _ _ h => h) (Or.inl ⟨by rfl, ?_⟩) (by assumption) ?_
  rotate_left
  · intro w hSw
    (try dsimp only at hSw)
    first | (go_simp; done) | (go_simp; with_reducible rfl)
  (try simp only [Act.put, List.setIfInBounds_toArray, List.set_cons_zero, List.set_cons_succ])
  refine wpAnyH_take (i := 17) (oi := { dst := some 64, op := Op.pick (Operand.tmp 60) (Operand.const (Value.bool true)) (Operand.tmp 63), type := 4, pos := "law.go:28", after := #[{ on := 13, ground := Ground.data }, { on := 16, ground := Ground.data }], guard := none }) (v := ?_) rfl (by kernel_rfl) (by kernel_rfl) (by kernel_rfl) (fun _ _ _ h => h) (Or.inl ⟨by rfl, ?_⟩) (by assumption) ?_
  rotate_left
  · intro w hSw
    (try dsimp only at hSw)
    first | (go_simp; done) | (go_simp; with_reducible rfl)
  (try simp only [Act.put, List.setIfInBounds_toArray, List.set_cons_zero, List.set_cons_succ])
  refine wpAnyH_take (i := 18) (oi := { dst := some 65, op := Op.move (Operand.tmp 64), type := 4, pos := "law.go:28", after := #[{ on := 17, ground := Ground.data }, { on := 13, ground := Ground.chain }], guard := none }) (v := ?_) rfl (by kernel_rfl) (by kernel_rfl) (by kernel_rfl) (fun _ _ _ h => h) (Or.inl ⟨by rfl, ?_⟩) (by assumption) ?_
  rotate_left
  · intro w hSw
    (try dsimp only at hSw)
    first | (go_simp; done) | (go_simp; with_reducible rfl)
  (try simp only [Act.put, List.setIfInBounds_toArray, List.set_cons_zero, List.set_cons_succ])
  refine wpAnyH_take (i := 19) (oi := { dst := some 66, op := Op.load 26 (Operand.tmp 6), type := 26, pos := "law.go:28", after := #[{ on := 18, ground := Ground.guard }], guard := some (18, false) }) (v := ?_) rfl (by kernel_rfl) (by kernel_rfl) (by kernel_rfl) (fun _ _ _ h => h) (Or.inl ⟨by rfl, ?_⟩) (by assumption) ?_
  rotate_left
  · intro w hSw
    (try dsimp only at hSw)
    first | (go_simp; done) | (go_simp; with_reducible rfl)
  (try simp only [Act.put, List.setIfInBounds_toArray, List.set_cons_zero, List.set_cons_succ])
  refine wpAnyH_take (i := 21) (oi := { dst := some 68, op := Op.load 26 (Operand.tmp 6), type := 26, pos := "law.go:28", after := #[{ on := 18, ground := Ground.guard }], guard := some (18, false) }) (v := ?_) rfl (by kernel_rfl) (by kernel_rfl) (by kernel_rfl) (fun _ _ _ h => h) (Or.inl ⟨by rfl, ?_⟩) (by assumption) ?_
  rotate_left
  · intro w hSw
    (try dsimp only at hSw)
    first | (go_simp; done) | (go_simp; with_reducible rfl)
  (try simp only [Act.put, List.setIfInBounds_toArray, List.set_cons_zero, List.set_cons_succ])
  refine wpAnyH_ready (rs := [20]) (by kernel_rfl) (by simp) ?_
  refine AllReadyH.cons (o := { dst := some 67, op := Op.call { callee := Callee.value (Operand.func 12), args := #[Operand.tmp 66], argTypes := #[26] }, type := 4, pos := "law.go:28", after := #[{ on := 19, ground := Ground.data }, { on := 18, ground := Ground.chain }, { on := 18, ground := Ground.guard }], guard := some (18, false) }) rfl (fun K hK => ?_) AllReadyH.nil
  go_simp
  refine (KR.out _).mono ?_
  rintro e wx ⟨rfl, jx⟩
  replace nc := nc.trans (jx.mono nc.size)
  clear jx
  refine hK.out _ _ (CS.out _ nc) (fun hHeld => ?_)
  clear hK K
  (try simp only [Act.put, List.setIfInBounds_toArray, List.set_cons_zero, List.set_cons_succ])
  refine wpAnyH_ready (rs := [22]) (by kernel_rfl) (by simp) ?_
  refine AllReadyH.cons (o := { dst := some 69, op := Op.call { callee := Callee.value (Operand.func 13), args := #[Operand.tmp 68], argTypes := #[26] }, type := 4, pos := "law.go:28", after := #[{ on := 21, ground := Ground.data }, { on := 20, ground := Ground.chain }, { on := 18, ground := Ground.guard }], guard := some (18, false) }) rfl (fun K hK => ?_) AllReadyH.nil
  go_simp
  refine (KR9.out _).mono ?_
  rintro e wx ⟨rfl, jx⟩
  replace nc := nc.trans (jx.mono nc.size)
  clear jx
  refine hK.out _ _ (CS.out _ nc) (fun hHeld => ?_)
  clear hK K
  (try simp only [Act.put, List.setIfInBounds_toArray, List.set_cons_zero, List.set_cons_succ])
  refine wpAnyH_take (i := 23) (oi := { dst := some 70, op := Op.binOp BinOp.neq 4 (Operand.tmp 67) (Operand.tmp 69) 4, type := 4, pos := "law.go:28", after := #[{ on := 20, ground := Ground.data }, { on := 22, ground := Ground.data }, { on := 18, ground := Ground.guard }], guard := some (18, false) }) (v := ?_) rfl (by kernel_rfl) (by kernel_rfl) (by kernel_rfl) (fun _ _ _ h => h) (Or.inl ⟨by rfl, ?_⟩) (by assumption) ?_
  rotate_left
  · intro w hSw
    (try dsimp only at hSw)
    first | (go_simp; done) | (go_simp; with_reducible rfl)
  (try simp only [Act.put, List.setIfInBounds_toArray, List.set_cons_zero, List.set_cons_succ])
  refine wpAnyH_take (i := 24) (oi := { dst := some 71, op := Op.pick (Operand.tmp 65) (Operand.const (Value.bool true)) (Operand.tmp 70), type := 4, pos := "law.go:28", after := #[{ on := 18, ground := Ground.data }, { on := 23, ground := Ground.data }], guard := none }) (v := ?_) rfl (by kernel_rfl) (by kernel_rfl) (by kernel_rfl) (fun _ _ _ h => h) (Or.inl ⟨by rfl, ?_⟩) (by assumption) ?_
  rotate_left
  · intro w hSw
    (try dsimp only at hSw)
    first | (go_simp; done) | (go_simp; with_reducible rfl)
  (try simp only [Act.put, List.setIfInBounds_toArray, List.set_cons_zero, List.set_cons_succ])
  refine wpAnyH_take (i := 25) (oi := { dst := some 72, op := Op.move (Operand.tmp 71), type := 4, pos := "law.go:28", after := #[{ on := 24, ground := Ground.data }, { on := 22, ground := Ground.chain }], guard := none }) (v := ?_) rfl (by kernel_rfl) (by kernel_rfl) (by kernel_rfl) (fun _ _ _ h => h) (Or.inl ⟨by rfl, ?_⟩) (by assumption) ?_
  rotate_left
  · intro w hSw
    (try dsimp only at hSw)
    first | (go_simp; done) | (go_simp; with_reducible rfl)
  (try simp only [Act.put, List.setIfInBounds_toArray, List.set_cons_zero, List.set_cons_succ])
  refine wpAnyH_ready (rs := [26]) (by kernel_rfl) (by simp) ?_
  refine AllReadyH.cons (o := { dst := some 73, op := Op.call { callee := Callee.value (Operand.func 14), args := #[], argTypes := #[] }, type := 26, pos := "law.go:28", after := #[{ on := 25, ground := Ground.chain }, { on := 25, ground := Ground.guard }], guard := some (25, false) }) rfl (fun K hK => ?_) AllReadyH.nil
  go_simp
  refine (KN.out _).mono ?_
  rintro e wx ⟨rfl, jx⟩
  replace nc := nc.trans (jx.mono nc.size)
  clear jx
  refine hK.out _ _ (CS.out _ nc) (fun hHeld => ?_)
  clear hK K
  (try simp only [Act.put, List.setIfInBounds_toArray, List.set_cons_zero, List.set_cons_succ])
  refine wpAnyH_ready (rs := [27]) (by kernel_rfl) (by simp) ?_
  refine AllReadyH.cons (o := { dst := some 74, op := Op.call { callee := Callee.value (Operand.func 15), args := #[], argTypes := #[] }, type := 26, pos := "law.go:28", after := #[{ on := 26, ground := Ground.chain }, { on := 25, ground := Ground.guard }], guard := some (25, false) }) rfl (fun K hK => ?_) AllReadyH.nil
  go_simp
  refine (KN9.out _).mono ?_
  rintro e wx ⟨rfl, jx⟩
  replace nc := nc.trans (jx.mono nc.size)
  clear jx
  refine hK.out _ _ (CS.out _ nc) (fun hHeld => ?_)
  clear hK K
  (try simp only [Act.put, List.setIfInBounds_toArray, List.set_cons_zero, List.set_cons_succ])
  refine wpAnyH_take (i := 28) (oi := { dst := some 75, op := Op.binOp BinOp.neq 26 (Operand.tmp 73) (Operand.tmp 74) 26, type := 4, pos := "law.go:28", after := #[{ on := 26, ground := Ground.data }, { on := 27, ground := Ground.data }, { on := 25, ground := Ground.guard }], guard := some (25, false) }) (v := ?_) rfl (by kernel_rfl) (by kernel_rfl) (by kernel_rfl) (fun _ _ _ h => h) (Or.inl ⟨by rfl, ?_⟩) (by assumption) ?_
  rotate_left
  · intro w hSw
    (try dsimp only at hSw)
    first | (go_simp; done) | (go_simp; with_reducible rfl)
  (try simp only [Act.put, List.setIfInBounds_toArray, List.set_cons_zero, List.set_cons_succ])
  refine wpAnyH_take (i := 29) (oi := { dst := some 76, op := Op.pick (Operand.tmp 72) (Operand.const (Value.bool true)) (Operand.tmp 75), type := 4, pos := "law.go:28", after := #[{ on := 25, ground := Ground.data }, { on := 28, ground := Ground.data }], guard := none }) (v := ?_) rfl (by kernel_rfl) (by kernel_rfl) (by kernel_rfl) (fun _ _ _ h => h) (Or.inl ⟨by rfl, ?_⟩) (by assumption) ?_
  rotate_left
  · intro w hSw
    (try dsimp only at hSw)
    first | (go_simp; done) | (go_simp; with_reducible rfl)
  (try simp only [Act.put, List.setIfInBounds_toArray, List.set_cons_zero, List.set_cons_succ])
  refine wpAnyH_done (by kernel_rfl) ?_ _
  obtain ⟨bT, bU, L5⟩ := CB.out _ nc
  clear CS CB KR KR9 KN KN9 hq1 hq2 hq3 hq4 hq5 hq6 hHeld nc
  go_upto_region 7 with fail
  have TW := Lib.hid twakes_any
  have KL := Lib.hid (fun W => loads_any T W)
  have KL9 := Lib.hid (fun W => r10Loads_any T W)
  have KS := Lib.hid (fun W => spread_any T s W)
  have KS9 := Lib.hid (fun W => r10Spread_any T s W)
  have KO := Lib.hid (fun W => of_any T c W)
  have KO9 := Lib.hid (fun W => r10Of_any T c W)
  have KC := Lib.hid (fun W => changed_any T U W)
  have KC9 := Lib.hid (fun W => r10Changed_any T U W)
  have KM := Lib.hid (fun W => merge_any T U W)
  have KM9 := Lib.hid (fun W => r10Merge_any T U W)
  have HZ1 := Lib.hid (selI_len (ofP T c) 16)
  have HZ2 := Lib.hid (selI_len (chP T U) 16)
  have hq1 : ∀ W : World, (Go.binOp .eql 34 (numsV (lodT T 16)) (numsV (lodT T 16))).run Try.prog W = .ok (.bool true) W := fun W => by rw [eql_nums, eqN_refl]
  have hq2 : ∀ W : World, (Go.binOp .eql 26 (tabV (mg T U)) (tabV (mg T U))).run Try.prog W = .ok (.bool true) W := fun W => by rw [eql_tab, eqN_refl]
  generalize lodT T 16 = L at *
  generalize spr T s = sp at *
  generalize mg T U = M at *
  generalize selI (ofP T c) (List.range 16) = zs at *
  generalize selI (chP T U) (List.range 16) = ys at *
  have hq3 : (sp == sp) = true := by simp
  have nc := (Below.refl wx.heap.size wx).drew
  have CS := Lib.hid (fun W (m : Below wx.heap.size wx W) => show (ldS 26 (.pointer (some ⟨w.heap.size, 0, none⟩))).run Try.prog W = .ok (tabV T) W ∧ (ldS 26 (.pointer (some ⟨w.heap.size + 1, 0, none⟩))).run Try.prog W = .ok (tabV U) W from ⟨ld_tab (bb bT m), ld_tab (bb bU m)⟩)
  have HL5 := Lib.hid L5
  clear bT bU L5
  refine wp_region_held_drew (S := fun W => (ldS 26 (.pointer (some ⟨w.heap.size, 0, none⟩))).run Try.prog W = .ok (tabV T) W ∧ (ldS 26 (.pointer (some ⟨w.heap.size + 1, 0, none⟩))).run Try.prog W = .ok (tabV U) W) (by kernel_rfl) (CS.out _ nc) (fun hHeld => ?_)
  refine wpAnyH_take (i := 0) (oi := { dst := some 77, op := Op.load 26 (Operand.tmp 6), type := 26, pos := "law.go:31", after := #[], guard := none }) (v := ?_) rfl (by kernel_rfl) (by kernel_rfl) (by kernel_rfl) (fun _ _ _ h => h) (Or.inl ⟨by rfl, ?_⟩) (by assumption) ?_
  rotate_left
  · intro w hSw
    (try dsimp only at hSw)
    first | (go_simp; done) | (go_simp; with_reducible rfl)
  (try simp only [Act.put, List.setIfInBounds_toArray, List.set_cons_zero, List.set_cons_succ])
  refine wpAnyH_take (i := 2) (oi := { dst := some 79, op := Op.load 26 (Operand.tmp 6), type := 26, pos := "law.go:31", after := #[], guard := none }) (v := ?_) rfl (by kernel_rfl) (by kernel_rfl) (by kernel_rfl) (fun _ _ _ h => h) (Or.inl ⟨by rfl, ?_⟩) (by assumption) ?_
  rotate_left
  · intro w hSw
    (try dsimp only at hSw)
    first | (go_simp; done) | (go_simp; with_reducible rfl)
  (try simp only [Act.put, List.setIfInBounds_toArray, List.set_cons_zero, List.set_cons_succ])
  refine wpAnyH_ready (rs := [1]) (by kernel_rfl) (by simp) ?_
  refine AllReadyH.cons (o := { dst := some 78, op := Op.call { callee := Callee.value (Operand.func 16), args := #[Operand.tmp 77], argTypes := #[26] }, type := 34, pos := "law.go:31", after := #[{ on := 0, ground := Ground.data }], guard := none }) rfl (fun K hK => ?_) AllReadyH.nil
  go_simp
  refine (KL.out _).mono ?_
  rintro e wx ⟨rfl, jx⟩
  replace nc := nc.trans (jx.mono nc.size)
  clear jx
  refine hK.out _ _ (CS.out _ nc) (fun hHeld => ?_)
  clear hK K
  (try simp only [Act.put, List.setIfInBounds_toArray, List.set_cons_zero, List.set_cons_succ])
  refine wpAnyH_ready (rs := [3]) (by kernel_rfl) (by simp) ?_
  refine AllReadyH.cons (o := { dst := some 80, op := Op.call { callee := Callee.value (Operand.func 17), args := #[Operand.tmp 79], argTypes := #[26] }, type := 34, pos := "law.go:31", after := #[{ on := 2, ground := Ground.data }, { on := 1, ground := Ground.chain }], guard := none }) rfl (fun K hK => ?_) AllReadyH.nil
  go_simp
  refine (KL9.out _).mono ?_
  rintro e wx ⟨rfl, jx⟩
  replace nc := nc.trans (jx.mono nc.size)
  clear jx
  refine hK.out _ _ (CS.out _ nc) (fun hHeld => ?_)
  clear hK K
  (try simp only [Act.put, List.setIfInBounds_toArray, List.set_cons_zero, List.set_cons_succ])
  refine wpAnyH_take (i := 4) (oi := { dst := some 81, op := Op.binOp BinOp.eql 34 (Operand.tmp 78) (Operand.tmp 80) 34, type := 4, pos := "law.go:31", after := #[{ on := 1, ground := Ground.data }, { on := 3, ground := Ground.data }], guard := none }) (v := ?_) rfl (by kernel_rfl) (by kernel_rfl) (by kernel_rfl) (fun _ _ _ h => h) (Or.inl ⟨by rfl, ?_⟩) (by assumption) ?_
  rotate_left
  · intro w hSw
    (try dsimp only at hSw)
    first | (go_simp; done) | (go_simp; with_reducible rfl)
  (try simp only [Act.put, List.setIfInBounds_toArray, List.set_cons_zero, List.set_cons_succ])
  refine wpAnyH_take (i := 5) (oi := { dst := some 82, op := Op.move (Operand.tmp 81), type := 4, pos := "law.go:31", after := #[{ on := 4, ground := Ground.data }, { on := 3, ground := Ground.chain }], guard := none }) (v := ?_) rfl (by kernel_rfl) (by kernel_rfl) (by kernel_rfl) (fun _ _ _ h => h) (Or.inl ⟨by rfl, ?_⟩) (by assumption) ?_
  rotate_left
  · intro w hSw
    (try dsimp only at hSw)
    first | (go_simp; done) | (go_simp; with_reducible rfl)
  (try simp only [Act.put, List.setIfInBounds_toArray, List.set_cons_zero, List.set_cons_succ])
  refine wpAnyH_take (i := 6) (oi := { dst := some 83, op := Op.load 26 (Operand.tmp 6), type := 26, pos := "law.go:31", after := #[{ on := 5, ground := Ground.guard }], guard := some (5, true) }) (v := ?_) rfl (by kernel_rfl) (by kernel_rfl) (by kernel_rfl) (fun _ _ _ h => h) (Or.inl ⟨by rfl, ?_⟩) (by assumption) ?_
  rotate_left
  · intro w hSw
    (try dsimp only at hSw)
    first | (go_simp; done) | (go_simp; with_reducible rfl)
  (try simp only [Act.put, List.setIfInBounds_toArray, List.set_cons_zero, List.set_cons_succ])
  refine wpAnyH_take (i := 7) (oi := { dst := some 84, op := Op.move (Operand.tmp 4), type := 5, pos := "law.go:31", after := #[{ on := 5, ground := Ground.guard }], guard := some (5, true) }) (v := ?_) rfl (by kernel_rfl) (by kernel_rfl) (by kernel_rfl) (fun _ _ _ h => h) (Or.inl ⟨by rfl, ?_⟩) (by assumption) ?_
  rotate_left
  · intro w hSw
    (try dsimp only at hSw)
    first | (go_simp; done) | (go_simp; with_reducible rfl)
  (try simp only [Act.put, List.setIfInBounds_toArray, List.set_cons_zero, List.set_cons_succ])
  refine wpAnyH_take (i := 9) (oi := { dst := some 86, op := Op.load 26 (Operand.tmp 6), type := 26, pos := "law.go:31", after := #[{ on := 5, ground := Ground.guard }], guard := some (5, true) }) (v := ?_) rfl (by kernel_rfl) (by kernel_rfl) (by kernel_rfl) (fun _ _ _ h => h) (Or.inl ⟨by rfl, ?_⟩) (by assumption) ?_
  rotate_left
  · intro w hSw
    (try dsimp only at hSw)
    first | (go_simp; done) | (go_simp; with_reducible rfl)
  (try simp only [Act.put, List.setIfInBounds_toArray, List.set_cons_zero, List.set_cons_succ])
  refine wpAnyH_take (i := 10) (oi := { dst := some 87, op := Op.move (Operand.tmp 4), type := 5, pos := "law.go:31", after := #[{ on := 5, ground := Ground.guard }], guard := some (5, true) }) (v := ?_) rfl (by kernel_rfl) (by kernel_rfl) (by kernel_rfl) (fun _ _ _ h => h) (Or.inl ⟨by rfl, ?_⟩) (by assumption) ?_
  rotate_left
  · intro w hSw
    (try dsimp only at hSw)
    first | (go_simp; done) | (go_simp; with_reducible rfl)
  (try simp only [Act.put, List.setIfInBounds_toArray, List.set_cons_zero, List.set_cons_succ])
  refine wpAnyH_ready (rs := [8]) (by kernel_rfl) (by simp) ?_
  refine AllReadyH.cons (o := { dst := some 85, op := Op.call { callee := Callee.value (Operand.func 18), args := #[Operand.tmp 83, Operand.tmp 84], argTypes := #[26, 5] }, type := 3, pos := "law.go:31", after := #[{ on := 6, ground := Ground.data }, { on := 7, ground := Ground.data }, { on := 5, ground := Ground.chain }, { on := 5, ground := Ground.guard }], guard := some (5, true) }) rfl (fun K hK => ?_) AllReadyH.nil
  go_simp
  refine (KS.out _).mono ?_
  rintro e wx ⟨rfl, jx⟩
  replace nc := nc.trans (jx.mono nc.size)
  clear jx
  refine hK.out _ _ (CS.out _ nc) (fun hHeld => ?_)
  clear hK K
  (try simp only [Act.put, List.setIfInBounds_toArray, List.set_cons_zero, List.set_cons_succ])
  refine wpAnyH_ready (rs := [11]) (by kernel_rfl) (by simp) ?_
  refine AllReadyH.cons (o := { dst := some 88, op := Op.call { callee := Callee.value (Operand.func 19), args := #[Operand.tmp 86, Operand.tmp 87], argTypes := #[26, 5] }, type := 3, pos := "law.go:31", after := #[{ on := 9, ground := Ground.data }, { on := 10, ground := Ground.data }, { on := 8, ground := Ground.chain }, { on := 5, ground := Ground.guard }], guard := some (5, true) }) rfl (fun K hK => ?_) AllReadyH.nil
  go_simp
  refine (KS9.out _).mono ?_
  rintro e wx ⟨rfl, jx⟩
  replace nc := nc.trans (jx.mono nc.size)
  clear jx
  refine hK.out _ _ (CS.out _ nc) (fun hHeld => ?_)
  clear hK K
  (try simp only [Act.put, List.setIfInBounds_toArray, List.set_cons_zero, List.set_cons_succ])
  refine wpAnyH_take (i := 12) (oi := { dst := some 89, op := Op.binOp BinOp.eql 3 (Operand.tmp 85) (Operand.tmp 88) 3, type := 4, pos := "law.go:31", after := #[{ on := 8, ground := Ground.data }, { on := 11, ground := Ground.data }, { on := 5, ground := Ground.guard }], guard := some (5, true) }) (v := ?_) rfl (by kernel_rfl) (by kernel_rfl) (by kernel_rfl) (fun _ _ _ h => h) (Or.inl ⟨by rfl, ?_⟩) (by assumption) ?_
  rotate_left
  · intro w hSw
    (try dsimp only at hSw)
    first | (go_simp; done) | (go_simp; with_reducible rfl)
  (try simp only [Act.put, List.setIfInBounds_toArray, List.set_cons_zero, List.set_cons_succ])
  refine wpAnyH_take (i := 13) (oi := { dst := some 90, op := Op.pick (Operand.tmp 82) (Operand.tmp 89) (Operand.const (Value.bool false)), type := 4, pos := "law.go:31", after := #[{ on := 5, ground := Ground.data }, { on := 12, ground := Ground.data }], guard := none }) (v := ?_) rfl (by kernel_rfl) (by kernel_rfl) (by kernel_rfl) (fun _ _ _ h => h) (Or.inl ⟨by rfl, ?_⟩) (by assumption) ?_
  rotate_left
  · intro w hSw
    (try dsimp only at hSw)
    first | (go_simp; done) | (go_simp; with_reducible rfl)
  (try simp only [Act.put, List.setIfInBounds_toArray, List.set_cons_zero, List.set_cons_succ])
  refine wpAnyH_take (i := 14) (oi := { dst := some 91, op := Op.move (Operand.tmp 90), type := 4, pos := "law.go:31", after := #[{ on := 13, ground := Ground.data }, { on := 11, ground := Ground.chain }], guard := none }) (v := ?_) rfl (by kernel_rfl) (by kernel_rfl) (by kernel_rfl) (fun _ _ _ h => h) (Or.inl ⟨by rfl, ?_⟩) (by assumption) ?_
  rotate_left
  · intro w hSw
    (try dsimp only at hSw)
    first | (go_simp; done) | (go_simp; with_reducible rfl)
  (try simp only [Act.put, List.setIfInBounds_toArray, List.set_cons_zero, List.set_cons_succ])
  refine wpAnyH_take (i := 15) (oi := { dst := some 92, op := Op.load 26 (Operand.tmp 6), type := 26, pos := "law.go:31", after := #[{ on := 14, ground := Ground.guard }], guard := some (14, true) }) (v := ?_) rfl (by kernel_rfl) (by kernel_rfl) (by kernel_rfl) (fun _ _ _ h => h) (Or.inl ⟨by rfl, ?_⟩) (by assumption) ?_
  rotate_left
  · intro w hSw
    (try dsimp only at hSw)
    first | (go_simp; done) | (go_simp; with_reducible rfl)
  (try simp only [Act.put, List.setIfInBounds_toArray, List.set_cons_zero, List.set_cons_succ])
  refine wpAnyH_take (i := 16) (oi := { dst := some 93, op := Op.move (Operand.tmp 5), type := 3, pos := "law.go:31", after := #[{ on := 14, ground := Ground.guard }], guard := some (14, true) }) (v := ?_) rfl (by kernel_rfl) (by kernel_rfl) (by kernel_rfl) (fun _ _ _ h => h) (Or.inl ⟨by rfl, ?_⟩) (by assumption) ?_
  rotate_left
  · intro w hSw
    (try dsimp only at hSw)
    first | (go_simp; done) | (go_simp; with_reducible rfl)
  (try simp only [Act.put, List.setIfInBounds_toArray, List.set_cons_zero, List.set_cons_succ])
  refine wpAnyH_take (i := 18) (oi := { dst := some 95, op := Op.load 26 (Operand.tmp 6), type := 26, pos := "law.go:31", after := #[{ on := 14, ground := Ground.guard }], guard := some (14, true) }) (v := ?_) rfl (by kernel_rfl) (by kernel_rfl) (by kernel_rfl) (fun _ _ _ h => h) (Or.inl ⟨by rfl, ?_⟩) (by assumption) ?_
  rotate_left
  · intro w hSw
    (try dsimp only at hSw)
    first | (go_simp; done) | (go_simp; with_reducible rfl)
  (try simp only [Act.put, List.setIfInBounds_toArray, List.set_cons_zero, List.set_cons_succ])
  refine wpAnyH_take (i := 19) (oi := { dst := some 96, op := Op.move (Operand.tmp 5), type := 3, pos := "law.go:31", after := #[{ on := 14, ground := Ground.guard }], guard := some (14, true) }) (v := ?_) rfl (by kernel_rfl) (by kernel_rfl) (by kernel_rfl) (fun _ _ _ h => h) (Or.inl ⟨by rfl, ?_⟩) (by assumption) ?_
  rotate_left
  · intro w hSw
    (try dsimp only at hSw)
    first | (go_simp; done) | (go_simp; with_reducible rfl)
  (try simp only [Act.put, List.setIfInBounds_toArray, List.set_cons_zero, List.set_cons_succ])
  refine wpAnyH_ready (rs := [17]) (by kernel_rfl) (by simp) ?_
  refine AllReadyH.cons (o := { dst := some 94, op := Op.call { callee := Callee.value (Operand.func 21), args := #[Operand.tmp 92, Operand.tmp 93], argTypes := #[26, 3] }, type := 38, pos := "law.go:31", after := #[{ on := 15, ground := Ground.data }, { on := 16, ground := Ground.data }, { on := 14, ground := Ground.chain }, { on := 14, ground := Ground.guard }], guard := some (14, true) }) rfl (fun K hK => ?_) AllReadyH.nil
  go_simp
  refine (KO.out _).mono ?_
  rintro e wx ⟨A1, c1, rfl, R1, jx⟩
  replace nc := nc.trans (jx.mono nc.size)
  clear jx
  refine hK.out _ _ (CS.out _ nc) (fun hHeld => ?_)
  clear hK K
  (try simp only [Act.put, List.setIfInBounds_toArray, List.set_cons_zero, List.set_cons_succ])
  refine wpAnyH_ready (rs := [20]) (by kernel_rfl) (by simp) ?_
  refine AllReadyH.cons (o := { dst := some 97, op := Op.call { callee := Callee.value (Operand.func 22), args := #[Operand.tmp 95, Operand.tmp 96], argTypes := #[26, 3] }, type := 38, pos := "law.go:31", after := #[{ on := 18, ground := Ground.data }, { on := 19, ground := Ground.data }, { on := 17, ground := Ground.chain }, { on := 14, ground := Ground.guard }], guard := some (14, true) }) rfl (fun K hK => ?_) AllReadyH.nil
  go_simp
  refine (KO9.out _).mono ?_
  rintro e wx ⟨A2, c2, rfl, R2, jx⟩
  replace R1 := R1.step jx
  replace nc := nc.trans (jx.mono nc.size)
  clear jx
  refine hK.out _ _ (CS.out _ nc) (fun hHeld => ?_)
  clear hK K
  (try simp only [Act.put, List.setIfInBounds_toArray, List.set_cons_zero, List.set_cons_succ])
  refine wpAnyH_ready (rs := [21]) (by kernel_rfl) (by simp) ?_
  refine AllReadyH.cons (o := { dst := some 98, op := Op.call { callee := Callee.value (Operand.func 20), args := #[Operand.tmp 94, Operand.tmp 97], argTypes := #[38, 38] }, type := 4, pos := "law.go:31", after := #[{ on := 17, ground := Ground.data }, { on := 20, ground := Ground.data }, { on := 20, ground := Ground.chain }, { on := 14, ground := Ground.guard }], guard := some (14, true) }) rfl (fun K hK => ?_) AllReadyH.nil
  go_simp
  refine (tints_any _ _ _ _ _ zs _ R1 R2 rfl (by have := HZ1.out; omega)).mono ?_
  rintro e wx ⟨rfl, jx⟩
  replace nc := nc.trans (jx.mono nc.size)
  clear jx
  refine hK.out _ _ (CS.out _ nc) (fun hHeld => ?_)
  clear hK K
  (try simp only [Act.put, List.setIfInBounds_toArray, List.set_cons_zero, List.set_cons_succ])
  refine wpAnyH_take (i := 22) (oi := { dst := some 99, op := Op.pick (Operand.tmp 91) (Operand.tmp 98) (Operand.const (Value.bool false)), type := 4, pos := "law.go:31", after := #[{ on := 14, ground := Ground.data }, { on := 21, ground := Ground.data }], guard := none }) (v := ?_) rfl (by kernel_rfl) (by kernel_rfl) (by kernel_rfl) (fun _ _ _ h => h) (Or.inl ⟨by rfl, ?_⟩) (by assumption) ?_
  rotate_left
  · intro w hSw
    (try dsimp only at hSw)
    first | (go_simp; done) | (go_simp; with_reducible rfl)
  (try simp only [Act.put, List.setIfInBounds_toArray, List.set_cons_zero, List.set_cons_succ])
  refine wpAnyH_take (i := 23) (oi := { dst := some 100, op := Op.move (Operand.tmp 99), type := 4, pos := "law.go:31", after := #[{ on := 22, ground := Ground.data }, { on := 21, ground := Ground.chain }], guard := none }) (v := ?_) rfl (by kernel_rfl) (by kernel_rfl) (by kernel_rfl) (fun _ _ _ h => h) (Or.inl ⟨by rfl, ?_⟩) (by assumption) ?_
  rotate_left
  · intro w hSw
    (try dsimp only at hSw)
    first | (go_simp; done) | (go_simp; with_reducible rfl)
  (try simp only [Act.put, List.setIfInBounds_toArray, List.set_cons_zero, List.set_cons_succ])
  refine wpAnyH_take (i := 24) (oi := { dst := some 101, op := Op.load 26 (Operand.tmp 6), type := 26, pos := "law.go:31", after := #[{ on := 23, ground := Ground.guard }], guard := some (23, true) }) (v := ?_) rfl (by kernel_rfl) (by kernel_rfl) (by kernel_rfl) (fun _ _ _ h => h) (Or.inl ⟨by rfl, ?_⟩) (by assumption) ?_
  rotate_left
  · intro w hSw
    (try dsimp only at hSw)
    first | (go_simp; done) | (go_simp; with_reducible rfl)
  (try simp only [Act.put, List.setIfInBounds_toArray, List.set_cons_zero, List.set_cons_succ])
  refine wpAnyH_take (i := 25) (oi := { dst := some 102, op := Op.load 26 (Operand.tmp 7), type := 26, pos := "law.go:31", after := #[{ on := 23, ground := Ground.guard }], guard := some (23, true) }) (v := ?_) rfl (by kernel_rfl) (by kernel_rfl) (by kernel_rfl) (fun _ _ _ h => h) (Or.inl ⟨by rfl, ?_⟩) (by assumption) ?_
  rotate_left
  · intro w hSw
    (try dsimp only at hSw)
    first | (go_simp; done) | (go_simp; with_reducible rfl)
  (try simp only [Act.put, List.setIfInBounds_toArray, List.set_cons_zero, List.set_cons_succ])
  refine wpAnyH_take (i := 27) (oi := { dst := some 104, op := Op.load 26 (Operand.tmp 6), type := 26, pos := "law.go:31", after := #[{ on := 23, ground := Ground.guard }], guard := some (23, true) }) (v := ?_) rfl (by kernel_rfl) (by kernel_rfl) (by kernel_rfl) (fun _ _ _ h => h) (Or.inl ⟨by rfl, ?_⟩) (by assumption) ?_
  rotate_left
  · intro w hSw
    (try dsimp only at hSw)
    first | (go_simp; done) | (go_simp; with_reducible rfl)
  (try simp only [Act.put, List.setIfInBounds_toArray, List.set_cons_zero, List.set_cons_succ])
  refine wpAnyH_take (i := 28) (oi := { dst := some 105, op := Op.load 26 (Operand.tmp 7), type := 26, pos := "law.go:31", after := #[{ on := 23, ground := Ground.guard }], guard := some (23, true) }) (v := ?_) rfl (by kernel_rfl) (by kernel_rfl) (by kernel_rfl) (fun _ _ _ h => h) (Or.inl ⟨by rfl, ?_⟩) (by assumption) ?_
  rotate_left
  · intro w hSw
    (try dsimp only at hSw)
    first | (go_simp; done) | (go_simp; with_reducible rfl)
  (try simp only [Act.put, List.setIfInBounds_toArray, List.set_cons_zero, List.set_cons_succ])
  refine wpAnyH_ready (rs := [26]) (by kernel_rfl) (by simp) ?_
  refine AllReadyH.cons (o := { dst := some 103, op := Op.call { callee := Callee.value (Operand.func 23), args := #[Operand.tmp 101, Operand.tmp 102], argTypes := #[26, 26] }, type := 38, pos := "law.go:31", after := #[{ on := 24, ground := Ground.data }, { on := 25, ground := Ground.data }, { on := 23, ground := Ground.chain }, { on := 23, ground := Ground.guard }], guard := some (23, true) }) rfl (fun K hK => ?_) AllReadyH.nil
  go_simp
  refine (KC.out _).mono ?_
  rintro e wx ⟨A5, c5, rfl, R5, jx⟩
  replace nc := nc.trans (jx.mono nc.size)
  clear jx
  refine hK.out _ _ (CS.out _ nc) (fun hHeld => ?_)
  clear hK K
  (try simp only [Act.put, List.setIfInBounds_toArray, List.set_cons_zero, List.set_cons_succ])
  refine wpAnyH_ready (rs := [29]) (by kernel_rfl) (by simp) ?_
  refine AllReadyH.cons (o := { dst := some 106, op := Op.call { callee := Callee.value (Operand.func 24), args := #[Operand.tmp 104, Operand.tmp 105], argTypes := #[26, 26] }, type := 38, pos := "law.go:31", after := #[{ on := 27, ground := Ground.data }, { on := 28, ground := Ground.data }, { on := 26, ground := Ground.chain }, { on := 23, ground := Ground.guard }], guard := some (23, true) }) rfl (fun K hK => ?_) AllReadyH.nil
  go_simp
  refine (KC9.out _).mono ?_
  rintro e wx ⟨A6, c6, rfl, R6, jx⟩
  replace R5 := R5.step jx
  replace nc := nc.trans (jx.mono nc.size)
  clear jx
  refine hK.out _ _ (CS.out _ nc) (fun hHeld => ?_)
  clear hK K
  (try simp only [Act.put, List.setIfInBounds_toArray, List.set_cons_zero, List.set_cons_succ])
  refine wpAnyH_ready (rs := [30]) (by kernel_rfl) (by simp) ?_
  refine AllReadyH.cons (o := { dst := some 107, op := Op.call { callee := Callee.value (Operand.func 20), args := #[Operand.tmp 103, Operand.tmp 106], argTypes := #[38, 38] }, type := 4, pos := "law.go:31", after := #[{ on := 26, ground := Ground.data }, { on := 29, ground := Ground.data }, { on := 29, ground := Ground.chain }, { on := 23, ground := Ground.guard }], guard := some (23, true) }) rfl (fun K hK => ?_) AllReadyH.nil
  go_simp
  refine (tints_any _ _ _ _ _ ys _ R5 R6 rfl (by have := HZ2.out; omega)).mono ?_
  rintro e wx ⟨rfl, jx⟩
  replace nc := nc.trans (jx.mono nc.size)
  clear jx
  refine hK.out _ _ (CS.out _ nc) (fun hHeld => ?_)
  clear hK K
  (try simp only [Act.put, List.setIfInBounds_toArray, List.set_cons_zero, List.set_cons_succ])
  refine wpAnyH_take (i := 31) (oi := { dst := some 108, op := Op.pick (Operand.tmp 100) (Operand.tmp 107) (Operand.const (Value.bool false)), type := 4, pos := "law.go:31", after := #[{ on := 23, ground := Ground.data }, { on := 30, ground := Ground.data }], guard := none }) (v := ?_) rfl (by kernel_rfl) (by kernel_rfl) (by kernel_rfl) (fun _ _ _ h => h) (Or.inl ⟨by rfl, ?_⟩) (by assumption) ?_
  rotate_left
  · intro w hSw
    (try dsimp only at hSw)
    first | (go_simp; done) | (go_simp; with_reducible rfl)
  (try simp only [Act.put, List.setIfInBounds_toArray, List.set_cons_zero, List.set_cons_succ])
  refine wpAnyH_take (i := 32) (oi := { dst := some 109, op := Op.move (Operand.tmp 108), type := 4, pos := "law.go:31", after := #[{ on := 31, ground := Ground.data }, { on := 30, ground := Ground.chain }], guard := none }) (v := ?_) rfl (by kernel_rfl) (by kernel_rfl) (by kernel_rfl) (fun _ _ _ h => h) (Or.inl ⟨by rfl, ?_⟩) (by assumption) ?_
  rotate_left
  · intro w hSw
    (try dsimp only at hSw)
    first | (go_simp; done) | (go_simp; with_reducible rfl)
  (try simp only [Act.put, List.setIfInBounds_toArray, List.set_cons_zero, List.set_cons_succ])
  refine wpAnyH_take (i := 33) (oi := { dst := some 110, op := Op.load 26 (Operand.tmp 6), type := 26, pos := "law.go:31", after := #[{ on := 32, ground := Ground.guard }], guard := some (32, true) }) (v := ?_) rfl (by kernel_rfl) (by kernel_rfl) (by kernel_rfl) (fun _ _ _ h => h) (Or.inl ⟨by rfl, ?_⟩) (by assumption) ?_
  rotate_left
  · intro w hSw
    (try dsimp only at hSw)
    first | (go_simp; done) | (go_simp; with_reducible rfl)
  (try simp only [Act.put, List.setIfInBounds_toArray, List.set_cons_zero, List.set_cons_succ])
  refine wpAnyH_take (i := 34) (oi := { dst := some 111, op := Op.load 26 (Operand.tmp 7), type := 26, pos := "law.go:31", after := #[{ on := 32, ground := Ground.guard }], guard := some (32, true) }) (v := ?_) rfl (by kernel_rfl) (by kernel_rfl) (by kernel_rfl) (fun _ _ _ h => h) (Or.inl ⟨by rfl, ?_⟩) (by assumption) ?_
  rotate_left
  · intro w hSw
    (try dsimp only at hSw)
    first | (go_simp; done) | (go_simp; with_reducible rfl)
  (try simp only [Act.put, List.setIfInBounds_toArray, List.set_cons_zero, List.set_cons_succ])
  refine wpAnyH_take (i := 36) (oi := { dst := some 113, op := Op.load 26 (Operand.tmp 6), type := 26, pos := "law.go:31", after := #[{ on := 32, ground := Ground.guard }], guard := some (32, true) }) (v := ?_) rfl (by kernel_rfl) (by kernel_rfl) (by kernel_rfl) (fun _ _ _ h => h) (Or.inl ⟨by rfl, ?_⟩) (by assumption) ?_
  rotate_left
  · intro w hSw
    (try dsimp only at hSw)
    first | (go_simp; done) | (go_simp; with_reducible rfl)
  (try simp only [Act.put, List.setIfInBounds_toArray, List.set_cons_zero, List.set_cons_succ])
  refine wpAnyH_take (i := 37) (oi := { dst := some 114, op := Op.load 26 (Operand.tmp 7), type := 26, pos := "law.go:31", after := #[{ on := 32, ground := Ground.guard }], guard := some (32, true) }) (v := ?_) rfl (by kernel_rfl) (by kernel_rfl) (by kernel_rfl) (fun _ _ _ h => h) (Or.inl ⟨by rfl, ?_⟩) (by assumption) ?_
  rotate_left
  · intro w hSw
    (try dsimp only at hSw)
    first | (go_simp; done) | (go_simp; with_reducible rfl)
  (try simp only [Act.put, List.setIfInBounds_toArray, List.set_cons_zero, List.set_cons_succ])
  refine wpAnyH_ready (rs := [35]) (by kernel_rfl) (by simp) ?_
  refine AllReadyH.cons (o := { dst := some 112, op := Op.call { callee := Callee.value (Operand.func 25), args := #[Operand.tmp 110, Operand.tmp 111], argTypes := #[26, 26] }, type := 26, pos := "law.go:31", after := #[{ on := 33, ground := Ground.data }, { on := 34, ground := Ground.data }, { on := 32, ground := Ground.chain }, { on := 32, ground := Ground.guard }], guard := some (32, true) }) rfl (fun K hK => ?_) AllReadyH.nil
  go_simp
  refine (KM.out _).mono ?_
  rintro e wx ⟨rfl, jx⟩
  replace nc := nc.trans (jx.mono nc.size)
  clear jx
  refine hK.out _ _ (CS.out _ nc) (fun hHeld => ?_)
  clear hK K
  (try simp only [Act.put, List.setIfInBounds_toArray, List.set_cons_zero, List.set_cons_succ])
  refine wpAnyH_ready (rs := [38]) (by kernel_rfl) (by simp) ?_
  refine AllReadyH.cons (o := { dst := some 115, op := Op.call { callee := Callee.value (Operand.func 26), args := #[Operand.tmp 113, Operand.tmp 114], argTypes := #[26, 26] }, type := 26, pos := "law.go:31", after := #[{ on := 36, ground := Ground.data }, { on := 37, ground := Ground.data }, { on := 35, ground := Ground.chain }, { on := 32, ground := Ground.guard }], guard := some (32, true) }) rfl (fun K hK => ?_) AllReadyH.nil
  go_simp
  refine (KM9.out _).mono ?_
  rintro e wx ⟨rfl, jx⟩
  replace nc := nc.trans (jx.mono nc.size)
  clear jx
  refine hK.out _ _ (CS.out _ nc) (fun hHeld => ?_)
  clear hK K
  (try simp only [Act.put, List.setIfInBounds_toArray, List.set_cons_zero, List.set_cons_succ])
  refine wpAnyH_take (i := 39) (oi := { dst := some 116, op := Op.binOp BinOp.eql 26 (Operand.tmp 112) (Operand.tmp 115) 26, type := 4, pos := "law.go:31", after := #[{ on := 35, ground := Ground.data }, { on := 38, ground := Ground.data }, { on := 32, ground := Ground.guard }], guard := some (32, true) }) (v := ?_) rfl (by kernel_rfl) (by kernel_rfl) (by kernel_rfl) (fun _ _ _ h => h) (Or.inl ⟨by rfl, ?_⟩) (by assumption) ?_
  rotate_left
  · intro w hSw
    (try dsimp only at hSw)
    first | (go_simp; done) | (go_simp; with_reducible rfl)
  (try simp only [Act.put, List.setIfInBounds_toArray, List.set_cons_zero, List.set_cons_succ])
  refine wpAnyH_take (i := 40) (oi := { dst := some 117, op := Op.pick (Operand.tmp 109) (Operand.tmp 116) (Operand.const (Value.bool false)), type := 4, pos := "law.go:31", after := #[{ on := 32, ground := Ground.data }, { on := 39, ground := Ground.data }], guard := none }) (v := ?_) rfl (by kernel_rfl) (by kernel_rfl) (by kernel_rfl) (fun _ _ _ h => h) (Or.inl ⟨by rfl, ?_⟩) (by assumption) ?_
  rotate_left
  · intro w hSw
    (try dsimp only at hSw)
    first | (go_simp; done) | (go_simp; with_reducible rfl)
  (try simp only [Act.put, List.setIfInBounds_toArray, List.set_cons_zero, List.set_cons_succ])
  refine wpAnyH_take (i := 41) (oi := { dst := some 118, op := Op.move (Operand.tmp 117), type := 4, pos := "law.go:31", after := #[{ on := 40, ground := Ground.data }, { on := 38, ground := Ground.chain }], guard := none }) (v := ?_) rfl (by kernel_rfl) (by kernel_rfl) (by kernel_rfl) (fun _ _ _ h => h) (Or.inl ⟨by rfl, ?_⟩) (by assumption) ?_
  rotate_left
  · intro w hSw
    (try dsimp only at hSw)
    first | (go_simp; done) | (go_simp; with_reducible rfl)
  (try simp only [Act.put, List.setIfInBounds_toArray, List.set_cons_zero, List.set_cons_succ])
  refine wpAnyH_ready (rs := [42]) (by kernel_rfl) (by simp) ?_
  refine AllReadyH.cons (o := { dst := some 119, op := Op.call { callee := Callee.value (Operand.func 27), args := #[], argTypes := #[] }, type := 4, pos := "law.go:31", after := #[{ on := 41, ground := Ground.chain }, { on := 41, ground := Ground.guard }], guard := some (41, true) }) rfl (fun K hK => ?_) AllReadyH.nil
  go_simp
  refine (TW.out _).mono ?_
  rintro e wx ⟨rfl, jx⟩
  replace nc := nc.trans (jx.mono nc.size)
  clear jx
  refine hK.out _ _ (CS.out _ nc) (fun hHeld => ?_)
  clear hK K
  (try simp only [Act.put, List.setIfInBounds_toArray, List.set_cons_zero, List.set_cons_succ])
  refine wpAnyH_take (i := 43) (oi := { dst := some 120, op := Op.pick (Operand.tmp 118) (Operand.tmp 119) (Operand.const (Value.bool false)), type := 4, pos := "law.go:31", after := #[{ on := 41, ground := Ground.data }, { on := 42, ground := Ground.data }], guard := none }) (v := ?_) rfl (by kernel_rfl) (by kernel_rfl) (by kernel_rfl) (fun _ _ _ h => h) (Or.inl ⟨by rfl, ?_⟩) (by assumption) ?_
  rotate_left
  · intro w hSw
    (try dsimp only at hSw)
    first | (go_simp; done) | (go_simp; with_reducible rfl)
  (try simp only [Act.put, List.setIfInBounds_toArray, List.set_cons_zero, List.set_cons_succ])
  refine wpAnyH_take (i := 44) (oi := { dst := some 12, op := Op.assign (Operand.tmp 120), type := 4, pos := "law.go:31", after := #[{ on := 43, ground := Ground.data }, { on := 42, ground := Ground.chain }, { on := 0, ground := Ground.phase }, { on := 1, ground := Ground.phase }, { on := 2, ground := Ground.phase }, { on := 3, ground := Ground.phase }, { on := 4, ground := Ground.phase }, { on := 5, ground := Ground.phase }, { on := 6, ground := Ground.phase }, { on := 7, ground := Ground.phase }, { on := 8, ground := Ground.phase }, { on := 9, ground := Ground.phase }, { on := 10, ground := Ground.phase }, { on := 11, ground := Ground.phase }, { on := 12, ground := Ground.phase }, { on := 13, ground := Ground.phase }, { on := 14, ground := Ground.phase }, { on := 15, ground := Ground.phase }, { on := 16, ground := Ground.phase }, { on := 17, ground := Ground.phase }, { on := 18, ground := Ground.phase }, { on := 19, ground := Ground.phase }, { on := 20, ground := Ground.phase }, { on := 21, ground := Ground.phase }, { on := 22, ground := Ground.phase }, { on := 23, ground := Ground.phase }, { on := 24, ground := Ground.phase }, { on := 25, ground := Ground.phase }, { on := 26, ground := Ground.phase }, { on := 27, ground := Ground.phase }, { on := 28, ground := Ground.phase }, { on := 29, ground := Ground.phase }, { on := 30, ground := Ground.phase }, { on := 31, ground := Ground.phase }, { on := 32, ground := Ground.phase }, { on := 33, ground := Ground.phase }, { on := 34, ground := Ground.phase }, { on := 35, ground := Ground.phase }, { on := 36, ground := Ground.phase }, { on := 37, ground := Ground.phase }, { on := 38, ground := Ground.phase }, { on := 39, ground := Ground.phase }, { on := 40, ground := Ground.phase }, { on := 41, ground := Ground.phase }, { on := 42, ground := Ground.phase }, { on := 43, ground := Ground.phase }], guard := none }) (v := ?_) rfl (by kernel_rfl) (by kernel_rfl) (by kernel_rfl) (fun _ _ _ h => h) (Or.inl ⟨by rfl, ?_⟩) (by assumption) ?_
  rotate_left
  · intro w hSw
    (try dsimp only at hSw)
    first | (go_simp; done) | (go_simp; with_reducible rfl)
  (try simp only [Act.put, List.setIfInBounds_toArray, List.set_cons_zero, List.set_cons_succ])
  refine wpAnyH_done (by kernel_rfl) ?_ _
  have L := HL5.out.trans (nc.mono HL5.out.size)
  clear CS hHeld
  go_wp2
  go_ret
  exact ⟨rfl, L⟩
end Go.Proofs.Ytanbkbppahgbgaa
