/- TbG: A row set: the document's. A row set: the document's. A row set: the document's. A row set: the document's. A row set: the document's. A row set: the document's. A row set: the document's. A row set: the document's, in all ways. -/
import Derived.Test.YthgoopdekllanaaTbE

/- A row set: the document's. -/
namespace Go.Proofs.Ythgoopdekllanaa
open Go.RowKit Go.Shelf
open SumM

attribute [local go_sem] Oper.semAt_some build_tab guard_undef
attribute [local go_sem ↓] zero_tab
attribute [local go_sem ↓] nm_ldT nm_ldA nm_stT

set_option maxRecDepth 100000 in
set_option maxHeartbeats 8000000 in
theorem r10Set_w1 (T : Nat → Int) (b : Int) (ec ep eg et : Int) (HF : setOk T b (ec, ep, eg, et) = false) (H : rgT T = false) (w : World) : Calls Try.prog 61 #[tabV T, .int .i64 b, .agg #[.int .i64 ec, .int .i64 ep, .int .i64 eg, .int .i64 et]] w fun e w' => e = .returned (.tuple #[tabV (setV T b (ec, ep, eg, et)), .int .i64 (setN T b (ec, ep, eg, et))]) ∧ Below w.heap.size w w' := by
  have bT := heap_alloc_new w (.cells (numL 65 T).toArray 26)
  have LT := (Below.refl w.heap.size w).alloc (Nat.le_refl _) (.cells (numL 65 T).toArray 26)
  have hs1 : (w.alloc (.cells (numL 65 T).toArray 26)).heap.size = w.heap.size + 1 := by simp
  go_enter Try.func61, Try.ntmps61
  go_upto_region 1 with (fail)
  generalize w.alloc (.cells (numL 65 T).toArray 26) = Wa at *
  have bE := heap_alloc_new Wa (.cells #[.int .i64 ec, .int .i64 ep, .int .i64 eg, .int .i64 et] 23)
  have bT := (Below.heap_alloc Wa (.cells #[.int .i64 ec, .int .i64 ep, .int .i64 eg, .int .i64 et] 23) _ (by omega)).trans bT
  have LE := LT.alloc LT.size (.cells #[.int .i64 ec, .int .i64 ep, .int .i64 eg, .int .i64 et] 23)
  have hs2 : (Wa.alloc (.cells #[.int .i64 ec, .int .i64 ep, .int .i64 eg, .int .i64 et] 23)).heap.size = w.heap.size + 2 := by simp; omega
  rw [hs1] at bE
  generalize Wa.alloc (.cells #[.int .i64 ec, .int .i64 ep, .int .i64 eg, .int .i64 et] 23) = Wb at *
  have bR := heap_alloc_new Wb (.cells (numL 65 zeroT).toArray 26)
  have bT := (Below.heap_alloc Wb (.cells (numL 65 zeroT).toArray 26) _ (by omega)).trans bT
  have bE := (Below.heap_alloc Wb (.cells (numL 65 zeroT).toArray 26) _ (by omega)).trans bE
  have L0 := LE.alloc LE.size (.cells (numL 65 zeroT).toArray 26)
  rw [hs2] at bR
  generalize Wb.alloc (.cells (numL 65 zeroT).toArray 26) = W0 at *
  clear LT LE hs1 hs2
  have fin : Hid (∀ W2 : World, Below W0.heap.size W0 W2 → NB (w.heap.size + 2) 26 65 zeroT W2 ∧ Below w.heap.size w W2 ∧ NB w.heap.size 26 65 T W2 ∧ W2.heap[w.heap.size + 1]? = some (.cells #[.int .i64 ec, .int .i64 ep, .int .i64 eg, .int .i64 et] 23 (0, 0))) := Lib.hid fun W2 m => ⟨bb bR m, L0.trans (m.mono L0.size), bb bT m, bb bE m⟩
  have n0 := (Below.refl W0.heap.size W0).drew
  have CE := Lib.hid (fun W (m : Below W0.heap.size W0 W) => show (ldS 26 (.pointer (some ⟨w.heap.size, 0, none⟩))).run Try.prog W = .ok (tabV T) W ∧ W.cell? ⟨w.heap.size + 1, 0, none⟩ = some (.int .i64 ec) ∧ W.cell? ⟨w.heap.size + 1, 1, none⟩ = some (.int .i64 ep) ∧ W.cell? ⟨w.heap.size + 1, 2, none⟩ = some (.int .i64 eg) ∧ W.cell? ⟨w.heap.size + 1, 3, none⟩ = some (.int .i64 et) ∧ W.cell? ⟨w.heap.size, 0, none⟩ = some (.int .i64 (T 0)) from
    ⟨ld_tab (bb bT m), (ent_cells _ _ _ _ (bb bE m)).1, (ent_cells _ _ _ _ (bb bE m)).2.1, (ent_cells _ _ _ _ (bb bE m)).2.2.1, (ent_cells _ _ _ _ (bb bE m)).2.2.2, nb_cell (bb bT m) (by omega)⟩)
  have HT := Lib.hid bT
  have nc := n0
  obtain ⟨x0, x1, x2, x3, x4, x5⟩ := CE.out _ nc
  clear bE bR L0
  go_cut [37] (fun v wx => v = .bool (!(setOk T b (ec, ep, eg, et))) ∧ Below W0.heap.size W0 wx)
  case first =>
    obtain ⟨r, hr⟩ : ∃ r, rgT T = r := ⟨_, rfl⟩
    obtain ⟨r', hr'⟩ : ∃ r', rgt ec ep eg et = r' := ⟨_, rfl⟩
    obtain ⟨r2, hr2⟩ : ∃ r2, decide ((rowT T b.toNat).2.2.1 < eg) = r2 := ⟨_, rfl⟩
    have KR := Lib.hid (fun W => hr ▸ r10Right_any T W)
    have KE := Lib.hid (fun W => hr' ▸ r9Right_any ec ep eg et W)
    have KN := Lib.hid (fun W => hr2 ▸ r9Newer_any ec ep eg et (rowT T b.toNat).1 (rowT T b.toNat).2.1 (rowT T b.toNat).2.2.1 (rowT T b.toNat).2.2.2 W)
    have HO : setOk T b (ec, ep, eg, et) = (r && r' && decide (0 ≤ b) && decide (b < 16) && !(T 0 == 1099511627776) && r2) := by
      unfold setOk
      rw [← hr, ← hr', ← hr2]
      rfl
    obtain rfl : r = false := by rw [← hr]; exact H
    clear hr hr' hr2 bT H
    · skip
      have HO := Lib.hid (show setOk T b (ec, ep, eg, et) = false by rw [HO]; rfl)
      have CS := Lib.hid (fun W (m : Below W0.heap.size W0 W) => show (ldS 26 (.pointer (some ⟨w.heap.size, 0, none⟩))).run Try.prog W = .ok (tabV T) W ∧ W.cell? ⟨w.heap.size + 1, 0, none⟩ = some (.int .i64 ec) ∧ W.cell? ⟨w.heap.size + 1, 1, none⟩ = some (.int .i64 ep) ∧ W.cell? ⟨w.heap.size + 1, 2, none⟩ = some (.int .i64 eg) ∧ W.cell? ⟨w.heap.size + 1, 3, none⟩ = some (.int .i64 et) ∧ W.cell? ⟨w.heap.size, 0, none⟩ = some (.int .i64 (T 0)) from CE.out W m)
      clear x0 x1 x2 x3 x4 x5
      refine wp_region_held_drew (S := fun W => (ldS 26 (.pointer (some ⟨w.heap.size, 0, none⟩))).run Try.prog W = .ok (tabV T) W ∧ W.cell? ⟨w.heap.size + 1, 0, none⟩ = some (.int .i64 ec) ∧ W.cell? ⟨w.heap.size + 1, 1, none⟩ = some (.int .i64 ep) ∧ W.cell? ⟨w.heap.size + 1, 2, none⟩ = some (.int .i64 eg) ∧ W.cell? ⟨w.heap.size + 1, 3, none⟩ = some (.int .i64 et) ∧ W.cell? ⟨w.heap.size, 0, none⟩ = some (.int .i64 (T 0))) (by kernel_rfl) (CS.out _ nc) (fun hHeld => ?_)
      refine wpAnyH_take (i := 0) (oi := { dst := some 8, op := Op.load 26 (Operand.tmp 3), type := 26, pos := "ref.go:33", after := #[], guard := none }) (v := ?_) rfl (by kernel_rfl) (by kernel_rfl) (by kernel_rfl) (fun _ _ _ h => h) (Or.inl ⟨by rfl, ?_⟩) (by assumption) ?_
      rotate_left
      · intro w hSw
        (try dsimp only at hSw)
        first | (go_simp; done) | (go_simp; with_reducible rfl)
      (try simp only [Act.put, List.setIfInBounds_toArray, List.set_cons_zero, List.set_cons_succ])
      refine wpAnyH_ready (rs := [1]) (by kernel_rfl) (by simp) ?_
      refine AllReadyH.cons (o := { dst := some 9, op := Op.call { callee := Callee.value (Operand.func 45), args := #[Operand.tmp 8], argTypes := #[26] }, type := 4, pos := "ref.go:33", after := #[{ on := 0, ground := Ground.data }], guard := none }) rfl (fun K hK => ?_) AllReadyH.nil
      go_simp
      refine (KR.out _).mono ?_
      rintro e wx ⟨rfl, jx⟩
      replace nc := nc.trans (jx.mono nc.size)
      clear jx
      refine hK.out _ _ (CS.out _ nc) (fun hHeld => ?_)
      clear hK K
      (try simp only [Act.put, List.setIfInBounds_toArray, List.set_cons_zero, List.set_cons_succ])
      refine wpAnyH_take (i := 2) (oi := { dst := some 10, op := Op.unOp UnOp.not 4 (Operand.tmp 9), type := 4, pos := "ref.go:33", after := #[{ on := 1, ground := Ground.data }], guard := none }) (v := ?_) rfl (by kernel_rfl) (by kernel_rfl) (by kernel_rfl) (fun _ _ _ h => h) (Or.inl ⟨by rfl, ?_⟩) (by assumption) ?_
      rotate_left
      · intro w hSw
        (try dsimp only at hSw)
        first | (go_simp; done) | (go_simp; with_reducible rfl)
      (try simp only [Act.put, List.setIfInBounds_toArray, List.set_cons_zero, List.set_cons_succ])
      refine wpAnyH_take (i := 3) (oi := { dst := some 11, op := Op.move (Operand.tmp 10), type := 4, pos := "ref.go:33", after := #[{ on := 2, ground := Ground.data }, { on := 1, ground := Ground.chain }], guard := none }) (v := ?_) rfl (by kernel_rfl) (by kernel_rfl) (by kernel_rfl) (fun _ _ _ h => h) (Or.inl ⟨by rfl, ?_⟩) (by assumption) ?_
      rotate_left
      · intro w hSw
        (try dsimp only at hSw)
        first | (go_simp; done) | (go_simp; with_reducible rfl)
      (try simp only [Act.put, List.setIfInBounds_toArray, List.set_cons_zero, List.set_cons_succ])
      refine wpAnyH_take (i := 4) (oi := { dst := some 12, op := Op.load 23 (Operand.tmp 5), type := 23, pos := "ref.go:33", after := #[{ on := 3, ground := Ground.guard }], guard := some (3, false) }) (v := undef) rfl (by kernel_rfl) (by kernel_rfl) (by kernel_rfl) (fun _ _ _ h => h) (Or.inr ⟨by rfl, rfl⟩) (by assumption) ?_
      (try simp only [Act.put, List.setIfInBounds_toArray, List.set_cons_zero, List.set_cons_succ])
      refine wpAnyH_take (i := 5) (oi := { dst := some 13, op := Op.call { callee := Callee.value (Operand.func 55), args := #[Operand.tmp 12], argTypes := #[23] }, type := 4, pos := "ref.go:33", after := #[{ on := 4, ground := Ground.data }, { on := 3, ground := Ground.chain }, { on := 3, ground := Ground.guard }], guard := some (3, false) }) (v := undef) rfl (by kernel_rfl) (by kernel_rfl) (by kernel_rfl) (fun _ _ _ h => h) (Or.inr ⟨by rfl, rfl⟩) (by assumption) ?_
      (try simp only [Act.put, List.setIfInBounds_toArray, List.set_cons_zero, List.set_cons_succ])
      refine wpAnyH_take (i := 6) (oi := { dst := some 14, op := Op.unOp UnOp.not 4 (Operand.tmp 13), type := 4, pos := "ref.go:33", after := #[{ on := 5, ground := Ground.data }, { on := 3, ground := Ground.guard }], guard := some (3, false) }) (v := undef) rfl (by kernel_rfl) (by kernel_rfl) (by kernel_rfl) (fun _ _ _ h => h) (Or.inr ⟨by rfl, rfl⟩) (by assumption) ?_
      (try simp only [Act.put, List.setIfInBounds_toArray, List.set_cons_zero, List.set_cons_succ])
      refine wpAnyH_take (i := 7) (oi := { dst := some 15, op := Op.pick (Operand.tmp 11) (Operand.const (Value.bool true)) (Operand.tmp 14), type := 4, pos := "ref.go:33", after := #[{ on := 3, ground := Ground.data }, { on := 6, ground := Ground.data }], guard := none }) (v := ?_) rfl (by kernel_rfl) (by kernel_rfl) (by kernel_rfl) (fun _ _ _ h => h) (Or.inl ⟨by rfl, ?_⟩) (by assumption) ?_
      rotate_left
      · intro w hSw
        (try dsimp only at hSw)
        first | (go_simp; done) | (go_simp; with_reducible rfl)
      (try simp only [Act.put, List.setIfInBounds_toArray, List.set_cons_zero, List.set_cons_succ])
      refine wpAnyH_take (i := 8) (oi := { dst := some 16, op := Op.move (Operand.tmp 15), type := 4, pos := "ref.go:33", after := #[{ on := 7, ground := Ground.data }, { on := 5, ground := Ground.chain }], guard := none }) (v := ?_) rfl (by kernel_rfl) (by kernel_rfl) (by kernel_rfl) (fun _ _ _ h => h) (Or.inl ⟨by rfl, ?_⟩) (by assumption) ?_
      rotate_left
      · intro w hSw
        (try dsimp only at hSw)
        first | (go_simp; done) | (go_simp; with_reducible rfl)
      (try simp only [Act.put, List.setIfInBounds_toArray, List.set_cons_zero, List.set_cons_succ])
      refine wpAnyH_take (i := 9) (oi := { dst := some 17, op := Op.move (Operand.tmp 1), type := 3, pos := "ref.go:33", after := #[{ on := 8, ground := Ground.guard }], guard := some (8, false) }) (v := undef) rfl (by kernel_rfl) (by kernel_rfl) (by kernel_rfl) (fun _ _ _ h => h) (Or.inr ⟨by rfl, rfl⟩) (by assumption) ?_
      (try simp only [Act.put, List.setIfInBounds_toArray, List.set_cons_zero, List.set_cons_succ])
      refine wpAnyH_take (i := 10) (oi := { dst := some 18, op := Op.binOp BinOp.lss 3 (Operand.tmp 17) (Operand.const (Value.int IntKind.i64 0)) 3, type := 4, pos := "ref.go:33", after := #[{ on := 9, ground := Ground.data }, { on := 8, ground := Ground.guard }], guard := some (8, false) }) (v := undef) rfl (by kernel_rfl) (by kernel_rfl) (by kernel_rfl) (fun _ _ _ h => h) (Or.inr ⟨by rfl, rfl⟩) (by assumption) ?_
      (try simp only [Act.put, List.setIfInBounds_toArray, List.set_cons_zero, List.set_cons_succ])
      refine wpAnyH_take (i := 11) (oi := { dst := some 19, op := Op.pick (Operand.tmp 16) (Operand.const (Value.bool true)) (Operand.tmp 18), type := 4, pos := "ref.go:33", after := #[{ on := 8, ground := Ground.data }, { on := 10, ground := Ground.data }], guard := none }) (v := ?_) rfl (by kernel_rfl) (by kernel_rfl) (by kernel_rfl) (fun _ _ _ h => h) (Or.inl ⟨by rfl, ?_⟩) (by assumption) ?_
      rotate_left
      · intro w hSw
        (try dsimp only at hSw)
        first | (go_simp; done) | (go_simp; with_reducible rfl)
      (try simp only [Act.put, List.setIfInBounds_toArray, List.set_cons_zero, List.set_cons_succ])
      refine wpAnyH_take (i := 12) (oi := { dst := some 20, op := Op.move (Operand.tmp 19), type := 4, pos := "ref.go:33", after := #[{ on := 11, ground := Ground.data }, { on := 8, ground := Ground.chain }], guard := none }) (v := ?_) rfl (by kernel_rfl) (by kernel_rfl) (by kernel_rfl) (fun _ _ _ h => h) (Or.inl ⟨by rfl, ?_⟩) (by assumption) ?_
      rotate_left
      · intro w hSw
        (try dsimp only at hSw)
        first | (go_simp; done) | (go_simp; with_reducible rfl)
      (try simp only [Act.put, List.setIfInBounds_toArray, List.set_cons_zero, List.set_cons_succ])
      refine wpAnyH_take (i := 13) (oi := { dst := some 21, op := Op.move (Operand.tmp 1), type := 3, pos := "ref.go:33", after := #[{ on := 12, ground := Ground.guard }], guard := some (12, false) }) (v := undef) rfl (by kernel_rfl) (by kernel_rfl) (by kernel_rfl) (fun _ _ _ h => h) (Or.inr ⟨by rfl, rfl⟩) (by assumption) ?_
      (try simp only [Act.put, List.setIfInBounds_toArray, List.set_cons_zero, List.set_cons_succ])
      refine wpAnyH_take (i := 14) (oi := { dst := some 22, op := Op.binOp BinOp.geq 3 (Operand.tmp 21) (Operand.const (Value.int IntKind.i64 16)) 3, type := 4, pos := "ref.go:33", after := #[{ on := 13, ground := Ground.data }, { on := 12, ground := Ground.guard }], guard := some (12, false) }) (v := undef) rfl (by kernel_rfl) (by kernel_rfl) (by kernel_rfl) (fun _ _ _ h => h) (Or.inr ⟨by rfl, rfl⟩) (by assumption) ?_
      (try simp only [Act.put, List.setIfInBounds_toArray, List.set_cons_zero, List.set_cons_succ])
      refine wpAnyH_take (i := 15) (oi := { dst := some 23, op := Op.pick (Operand.tmp 20) (Operand.const (Value.bool true)) (Operand.tmp 22), type := 4, pos := "ref.go:33", after := #[{ on := 12, ground := Ground.data }, { on := 14, ground := Ground.data }], guard := none }) (v := ?_) rfl (by kernel_rfl) (by kernel_rfl) (by kernel_rfl) (fun _ _ _ h => h) (Or.inl ⟨by rfl, ?_⟩) (by assumption) ?_
      rotate_left
      · intro w hSw
        (try dsimp only at hSw)
        first | (go_simp; done) | (go_simp; with_reducible rfl)
      (try simp only [Act.put, List.setIfInBounds_toArray, List.set_cons_zero, List.set_cons_succ])
      refine wpAnyH_take (i := 16) (oi := { dst := some 24, op := Op.move (Operand.tmp 23), type := 4, pos := "ref.go:33", after := #[{ on := 15, ground := Ground.data }, { on := 12, ground := Ground.chain }], guard := none }) (v := ?_) rfl (by kernel_rfl) (by kernel_rfl) (by kernel_rfl) (fun _ _ _ h => h) (Or.inl ⟨by rfl, ?_⟩) (by assumption) ?_
      rotate_left
      · intro w hSw
        (try dsimp only at hSw)
        first | (go_simp; done) | (go_simp; with_reducible rfl)
      (try simp only [Act.put, List.setIfInBounds_toArray, List.set_cons_zero, List.set_cons_succ])
      refine wpAnyH_take (i := 17) (oi := { dst := some 25, op := Op.fieldAddr 26 (Operand.tmp 3) 0, type := 0, pos := "ref.go:33", after := #[{ on := 16, ground := Ground.guard }], guard := some (16, false) }) (v := undef) rfl (by kernel_rfl) (by kernel_rfl) (by kernel_rfl) (fun _ _ _ h => h) (Or.inr ⟨by rfl, rfl⟩) (by assumption) ?_
      (try simp only [Act.put, List.setIfInBounds_toArray, List.set_cons_zero, List.set_cons_succ])
      refine wpAnyH_take (i := 18) (oi := { dst := some 26, op := Op.load 3 (Operand.tmp 25), type := 3, pos := "ref.go:33", after := #[{ on := 17, ground := Ground.data }, { on := 16, ground := Ground.guard }], guard := some (16, false) }) (v := undef) rfl (by kernel_rfl) (by kernel_rfl) (by kernel_rfl) (fun _ _ _ h => h) (Or.inr ⟨by rfl, rfl⟩) (by assumption) ?_
      (try simp only [Act.put, List.setIfInBounds_toArray, List.set_cons_zero, List.set_cons_succ])
      refine wpAnyH_take (i := 19) (oi := { dst := some 27, op := Op.binOp BinOp.eql 3 (Operand.tmp 26) (Operand.const (Value.int IntKind.i64 1099511627776)) 3, type := 4, pos := "ref.go:33", after := #[{ on := 18, ground := Ground.data }, { on := 16, ground := Ground.guard }], guard := some (16, false) }) (v := undef) rfl (by kernel_rfl) (by kernel_rfl) (by kernel_rfl) (fun _ _ _ h => h) (Or.inr ⟨by rfl, rfl⟩) (by assumption) ?_
      (try simp only [Act.put, List.setIfInBounds_toArray, List.set_cons_zero, List.set_cons_succ])
      refine wpAnyH_take (i := 20) (oi := { dst := some 28, op := Op.pick (Operand.tmp 24) (Operand.const (Value.bool true)) (Operand.tmp 27), type := 4, pos := "ref.go:33", after := #[{ on := 16, ground := Ground.data }, { on := 19, ground := Ground.data }], guard := none }) (v := ?_) rfl (by kernel_rfl) (by kernel_rfl) (by kernel_rfl) (fun _ _ _ h => h) (Or.inl ⟨by rfl, ?_⟩) (by assumption) ?_
      rotate_left
      · intro w hSw
        (try dsimp only at hSw)
        first | (go_simp; done) | (go_simp; with_reducible rfl)
      (try simp only [Act.put, List.setIfInBounds_toArray, List.set_cons_zero, List.set_cons_succ])
      refine wpAnyH_take (i := 21) (oi := { dst := some 29, op := Op.move (Operand.tmp 28), type := 4, pos := "ref.go:33", after := #[{ on := 20, ground := Ground.data }, { on := 16, ground := Ground.chain }], guard := none }) (v := ?_) rfl (by kernel_rfl) (by kernel_rfl) (by kernel_rfl) (fun _ _ _ h => h) (Or.inl ⟨by rfl, ?_⟩) (by assumption) ?_
      rotate_left
      · intro w hSw
        (try dsimp only at hSw)
        first | (go_simp; done) | (go_simp; with_reducible rfl)
      (try simp only [Act.put, List.setIfInBounds_toArray, List.set_cons_zero, List.set_cons_succ])
      refine wpAnyH_take (i := 22) (oi := { dst := some 30, op := Op.load 23 (Operand.tmp 5), type := 23, pos := "ref.go:33", after := #[{ on := 21, ground := Ground.guard }], guard := some (21, false) }) (v := undef) rfl (by kernel_rfl) (by kernel_rfl) (by kernel_rfl) (fun _ _ _ h => h) (Or.inr ⟨by rfl, rfl⟩) (by assumption) ?_
      (try simp only [Act.put, List.setIfInBounds_toArray, List.set_cons_zero, List.set_cons_succ])
      refine wpAnyH_take (i := 23) (oi := { dst := some 31, op := Op.move (Operand.tmp 1), type := 3, pos := "ref.go:33", after := #[{ on := 21, ground := Ground.guard }], guard := some (21, false) }) (v := undef) rfl (by kernel_rfl) (by kernel_rfl) (by kernel_rfl) (fun _ _ _ h => h) (Or.inr ⟨by rfl, rfl⟩) (by assumption) ?_
      (try simp only [Act.put, List.setIfInBounds_toArray, List.set_cons_zero, List.set_cons_succ])
      refine wpAnyH_take (i := 24) (oi := { dst := some 32, op := Op.fieldAddr 26 (Operand.tmp 3) 1, type := 0, pos := "ref.go:33", after := #[{ on := 21, ground := Ground.guard }], guard := some (21, false) }) (v := undef) rfl (by kernel_rfl) (by kernel_rfl) (by kernel_rfl) (fun _ _ _ h => h) (Or.inr ⟨by rfl, rfl⟩) (by assumption) ?_
      (try simp only [Act.put, List.setIfInBounds_toArray, List.set_cons_zero, List.set_cons_succ])
      refine wpAnyH_take (i := 25) (oi := { dst := some 33, op := Op.indexAddr 24 (Operand.tmp 32) (Operand.tmp 31), type := 0, pos := "ref.go:33", after := #[{ on := 24, ground := Ground.data }, { on := 23, ground := Ground.data }, { on := 21, ground := Ground.guard }], guard := some (21, false) }) (v := undef) rfl (by kernel_rfl) (by kernel_rfl) (by kernel_rfl) (fun _ _ _ h => h) (Or.inr ⟨by rfl, rfl⟩) (by assumption) ?_
      (try simp only [Act.put, List.setIfInBounds_toArray, List.set_cons_zero, List.set_cons_succ])
      refine wpAnyH_take (i := 26) (oi := { dst := some 34, op := Op.load 23 (Operand.tmp 33), type := 23, pos := "ref.go:33", after := #[{ on := 25, ground := Ground.data }, { on := 21, ground := Ground.guard }], guard := some (21, false) }) (v := undef) rfl (by kernel_rfl) (by kernel_rfl) (by kernel_rfl) (fun _ _ _ h => h) (Or.inr ⟨by rfl, rfl⟩) (by assumption) ?_
      (try simp only [Act.put, List.setIfInBounds_toArray, List.set_cons_zero, List.set_cons_succ])
      refine wpAnyH_take (i := 27) (oi := { dst := some 35, op := Op.call { callee := Callee.value (Operand.func 78), args := #[Operand.tmp 30, Operand.tmp 34], argTypes := #[23, 23] }, type := 4, pos := "ref.go:33", after := #[{ on := 22, ground := Ground.data }, { on := 26, ground := Ground.data }, { on := 21, ground := Ground.chain }, { on := 21, ground := Ground.guard }], guard := some (21, false) }) (v := undef) rfl (by kernel_rfl) (by kernel_rfl) (by kernel_rfl) (fun _ _ _ h => h) (Or.inr ⟨by rfl, rfl⟩) (by assumption) ?_
      (try simp only [Act.put, List.setIfInBounds_toArray, List.set_cons_zero, List.set_cons_succ])
      refine wpAnyH_take (i := 28) (oi := { dst := some 36, op := Op.unOp UnOp.not 4 (Operand.tmp 35), type := 4, pos := "ref.go:33", after := #[{ on := 27, ground := Ground.data }, { on := 21, ground := Ground.guard }], guard := some (21, false) }) (v := undef) rfl (by kernel_rfl) (by kernel_rfl) (by kernel_rfl) (fun _ _ _ h => h) (Or.inr ⟨by rfl, rfl⟩) (by assumption) ?_
      (try simp only [Act.put, List.setIfInBounds_toArray, List.set_cons_zero, List.set_cons_succ])
      refine wpAnyH_take (i := 29) (oi := { dst := some 37, op := Op.pick (Operand.tmp 29) (Operand.const (Value.bool true)) (Operand.tmp 36), type := 4, pos := "ref.go:33", after := #[{ on := 21, ground := Ground.data }, { on := 28, ground := Ground.data }], guard := none }) (v := ?_) rfl (by kernel_rfl) (by kernel_rfl) (by kernel_rfl) (fun _ _ _ h => h) (Or.inl ⟨by rfl, ?_⟩) (by assumption) ?_
      rotate_left
      · intro w hSw
        (try dsimp only at hSw)
        first | (go_simp; done) | (go_simp; with_reducible rfl)
      (try simp only [Act.put, List.setIfInBounds_toArray, List.set_cons_zero, List.set_cons_succ])
      refine wpAnyH_done (by kernel_rfl) ?_ _
      go_wp2_with fail
      go_meet
      exact ⟨by rw [HO.out]; rfl, nc⟩
  case rest =>
    obtain ⟨hcv, nd⟩ := hcut
    obtain ⟨ok, hok⟩ : ∃ ok, setOk T b (ec, ep, eg, et) = ok := ⟨_, rfl⟩
    rw [hok] at hcv
    subst hcv
    clear x0 x1 x2 x3 x4 x5 nc CE n0 bT
    obtain ⟨bR, L4, bT, bE⟩ := fin.out _ nd
    have hok2 : ok = false := by rw [← hok]; exact HF
    subst hok2
    · have HNO := Lib.hid hok
      simp only [Bool.not_false]
      have s0 := st_tab bR zeroT
      have HS := Lib.hid (nb_full bR zeroT)
      have HBX := Lib.hid (below_setCells (w.heap.size + 2) (by omega) (numL 65 zeroT) 0 w _ L4)
      have HV := Lib.hid (show setV T b (ec, ep, eg, et) = zeroT by unfold setV; rw [HNO.out]; rfl)
      have HN := Lib.hid (show setN T b (ec, ep, eg, et) = 2 by unfold setN; rw [HNO.out]; rfl)
      clear bT bE bR L4 hok nd
      go_wp2
      exact bodyPost_ret (results_agg_tmp rfl _ _ (w.heap.size + 2) _ _ (0, 0) _ rfl HS.out Try.undT rfl (by rw [List.size_toArray, numL_len]; exact Try.sizT)) rfl ⟨by rw [HV.out, HN.out]; rfl, HBX.out⟩
end Go.Proofs.Ythgoopdekllanaa

/- A row set: the document's. -/
namespace Go.Proofs.Ythgoopdekllanaa
open Go.RowKit Go.Shelf
open SumM

attribute [local go_sem] Oper.semAt_some build_tab guard_undef
attribute [local go_sem ↓] zero_tab
attribute [local go_sem ↓] nm_ldT nm_ldA nm_stT

set_option maxRecDepth 100000 in
set_option maxHeartbeats 8000000 in
theorem r10Set_w2 (T : Nat → Int) (b : Int) (ec ep eg et : Int) (HF : setOk T b (ec, ep, eg, et) = false) (H : rgT T = true) (H' : rgt ec ep eg et = false) (w : World) : Calls Try.prog 61 #[tabV T, .int .i64 b, .agg #[.int .i64 ec, .int .i64 ep, .int .i64 eg, .int .i64 et]] w fun e w' => e = .returned (.tuple #[tabV (setV T b (ec, ep, eg, et)), .int .i64 (setN T b (ec, ep, eg, et))]) ∧ Below w.heap.size w w' := by
  have bT := heap_alloc_new w (.cells (numL 65 T).toArray 26)
  have LT := (Below.refl w.heap.size w).alloc (Nat.le_refl _) (.cells (numL 65 T).toArray 26)
  have hs1 : (w.alloc (.cells (numL 65 T).toArray 26)).heap.size = w.heap.size + 1 := by simp
  go_enter Try.func61, Try.ntmps61
  go_upto_region 1 with (fail)
  generalize w.alloc (.cells (numL 65 T).toArray 26) = Wa at *
  have bE := heap_alloc_new Wa (.cells #[.int .i64 ec, .int .i64 ep, .int .i64 eg, .int .i64 et] 23)
  have bT := (Below.heap_alloc Wa (.cells #[.int .i64 ec, .int .i64 ep, .int .i64 eg, .int .i64 et] 23) _ (by omega)).trans bT
  have LE := LT.alloc LT.size (.cells #[.int .i64 ec, .int .i64 ep, .int .i64 eg, .int .i64 et] 23)
  have hs2 : (Wa.alloc (.cells #[.int .i64 ec, .int .i64 ep, .int .i64 eg, .int .i64 et] 23)).heap.size = w.heap.size + 2 := by simp; omega
  rw [hs1] at bE
  generalize Wa.alloc (.cells #[.int .i64 ec, .int .i64 ep, .int .i64 eg, .int .i64 et] 23) = Wb at *
  have bR := heap_alloc_new Wb (.cells (numL 65 zeroT).toArray 26)
  have bT := (Below.heap_alloc Wb (.cells (numL 65 zeroT).toArray 26) _ (by omega)).trans bT
  have bE := (Below.heap_alloc Wb (.cells (numL 65 zeroT).toArray 26) _ (by omega)).trans bE
  have L0 := LE.alloc LE.size (.cells (numL 65 zeroT).toArray 26)
  rw [hs2] at bR
  generalize Wb.alloc (.cells (numL 65 zeroT).toArray 26) = W0 at *
  clear LT LE hs1 hs2
  have fin : Hid (∀ W2 : World, Below W0.heap.size W0 W2 → NB (w.heap.size + 2) 26 65 zeroT W2 ∧ Below w.heap.size w W2 ∧ NB w.heap.size 26 65 T W2 ∧ W2.heap[w.heap.size + 1]? = some (.cells #[.int .i64 ec, .int .i64 ep, .int .i64 eg, .int .i64 et] 23 (0, 0))) := Lib.hid fun W2 m => ⟨bb bR m, L0.trans (m.mono L0.size), bb bT m, bb bE m⟩
  have n0 := (Below.refl W0.heap.size W0).drew
  have CE := Lib.hid (fun W (m : Below W0.heap.size W0 W) => show (ldS 26 (.pointer (some ⟨w.heap.size, 0, none⟩))).run Try.prog W = .ok (tabV T) W ∧ W.cell? ⟨w.heap.size + 1, 0, none⟩ = some (.int .i64 ec) ∧ W.cell? ⟨w.heap.size + 1, 1, none⟩ = some (.int .i64 ep) ∧ W.cell? ⟨w.heap.size + 1, 2, none⟩ = some (.int .i64 eg) ∧ W.cell? ⟨w.heap.size + 1, 3, none⟩ = some (.int .i64 et) ∧ W.cell? ⟨w.heap.size, 0, none⟩ = some (.int .i64 (T 0)) from
    ⟨ld_tab (bb bT m), (ent_cells _ _ _ _ (bb bE m)).1, (ent_cells _ _ _ _ (bb bE m)).2.1, (ent_cells _ _ _ _ (bb bE m)).2.2.1, (ent_cells _ _ _ _ (bb bE m)).2.2.2, nb_cell (bb bT m) (by omega)⟩)
  have HT := Lib.hid bT
  have nc := n0
  obtain ⟨x0, x1, x2, x3, x4, x5⟩ := CE.out _ nc
  clear bE bR L0
  go_cut [37] (fun v wx => v = .bool (!(setOk T b (ec, ep, eg, et))) ∧ Below W0.heap.size W0 wx)
  case first =>
    obtain ⟨r, hr⟩ : ∃ r, rgT T = r := ⟨_, rfl⟩
    obtain ⟨r', hr'⟩ : ∃ r', rgt ec ep eg et = r' := ⟨_, rfl⟩
    obtain ⟨r2, hr2⟩ : ∃ r2, decide ((rowT T b.toNat).2.2.1 < eg) = r2 := ⟨_, rfl⟩
    have KR := Lib.hid (fun W => hr ▸ r10Right_any T W)
    have KE := Lib.hid (fun W => hr' ▸ r9Right_any ec ep eg et W)
    have KN := Lib.hid (fun W => hr2 ▸ r9Newer_any ec ep eg et (rowT T b.toNat).1 (rowT T b.toNat).2.1 (rowT T b.toNat).2.2.1 (rowT T b.toNat).2.2.2 W)
    have HO : setOk T b (ec, ep, eg, et) = (r && r' && decide (0 ≤ b) && decide (b < 16) && !(T 0 == 1099511627776) && r2) := by
      unfold setOk
      rw [← hr, ← hr', ← hr2]
      rfl
    obtain rfl : r = true := by rw [← hr]; exact H
    obtain rfl : r' = false := by rw [← hr']; exact H'
    clear hr hr' hr2 bT H H'
    · skip
      have HO := Lib.hid (show setOk T b (ec, ep, eg, et) = false by rw [HO]; rfl)
      have CS := Lib.hid (fun W (m : Below W0.heap.size W0 W) => show (ldS 26 (.pointer (some ⟨w.heap.size, 0, none⟩))).run Try.prog W = .ok (tabV T) W ∧ W.cell? ⟨w.heap.size + 1, 0, none⟩ = some (.int .i64 ec) ∧ W.cell? ⟨w.heap.size + 1, 1, none⟩ = some (.int .i64 ep) ∧ W.cell? ⟨w.heap.size + 1, 2, none⟩ = some (.int .i64 eg) ∧ W.cell? ⟨w.heap.size + 1, 3, none⟩ = some (.int .i64 et) ∧ W.cell? ⟨w.heap.size, 0, none⟩ = some (.int .i64 (T 0)) from CE.out W m)
      clear x0 x1 x2 x3 x4 x5
      refine wp_region_held_drew (S := fun W => (ldS 26 (.pointer (some ⟨w.heap.size, 0, none⟩))).run Try.prog W = .ok (tabV T) W ∧ W.cell? ⟨w.heap.size + 1, 0, none⟩ = some (.int .i64 ec) ∧ W.cell? ⟨w.heap.size + 1, 1, none⟩ = some (.int .i64 ep) ∧ W.cell? ⟨w.heap.size + 1, 2, none⟩ = some (.int .i64 eg) ∧ W.cell? ⟨w.heap.size + 1, 3, none⟩ = some (.int .i64 et) ∧ W.cell? ⟨w.heap.size, 0, none⟩ = some (.int .i64 (T 0))) (by kernel_rfl) (CS.out _ nc) (fun hHeld => ?_)
      refine wpAnyH_take (i := 0) (oi := { dst := some 8, op := Op.load 26 (Operand.tmp 3), type := 26, pos := "ref.go:33", after := #[], guard := none }) (v := ?_) rfl (by kernel_rfl) (by kernel_rfl) (by kernel_rfl) (fun _ _ _ h => h) (Or.inl ⟨by rfl, ?_⟩) (by assumption) ?_
      rotate_left
      · intro w hSw
        (try dsimp only at hSw)
        first | (go_simp; done) | (go_simp; with_reducible rfl)
      (try simp only [Act.put, List.setIfInBounds_toArray, List.set_cons_zero, List.set_cons_succ])
      refine wpAnyH_ready (rs := [1]) (by kernel_rfl) (by simp) ?_
      refine AllReadyH.cons (o := { dst := some 9, op := Op.call { callee := Callee.value (Operand.func 45), args := #[Operand.tmp 8], argTypes := #[26] }, type := 4, pos := "ref.go:33", after := #[{ on := 0, ground := Ground.data }], guard := none }) rfl (fun K hK => ?_) AllReadyH.nil
      go_simp
      refine (KR.out _).mono ?_
      rintro e wx ⟨rfl, jx⟩
      replace nc := nc.trans (jx.mono nc.size)
      clear jx
      refine hK.out _ _ (CS.out _ nc) (fun hHeld => ?_)
      clear hK K
      (try simp only [Act.put, List.setIfInBounds_toArray, List.set_cons_zero, List.set_cons_succ])
      refine wpAnyH_take (i := 2) (oi := { dst := some 10, op := Op.unOp UnOp.not 4 (Operand.tmp 9), type := 4, pos := "ref.go:33", after := #[{ on := 1, ground := Ground.data }], guard := none }) (v := ?_) rfl (by kernel_rfl) (by kernel_rfl) (by kernel_rfl) (fun _ _ _ h => h) (Or.inl ⟨by rfl, ?_⟩) (by assumption) ?_
      rotate_left
      · intro w hSw
        (try dsimp only at hSw)
        first | (go_simp; done) | (go_simp; with_reducible rfl)
      (try simp only [Act.put, List.setIfInBounds_toArray, List.set_cons_zero, List.set_cons_succ])
      refine wpAnyH_take (i := 3) (oi := { dst := some 11, op := Op.move (Operand.tmp 10), type := 4, pos := "ref.go:33", after := #[{ on := 2, ground := Ground.data }, { on := 1, ground := Ground.chain }], guard := none }) (v := ?_) rfl (by kernel_rfl) (by kernel_rfl) (by kernel_rfl) (fun _ _ _ h => h) (Or.inl ⟨by rfl, ?_⟩) (by assumption) ?_
      rotate_left
      · intro w hSw
        (try dsimp only at hSw)
        first | (go_simp; done) | (go_simp; with_reducible rfl)
      (try simp only [Act.put, List.setIfInBounds_toArray, List.set_cons_zero, List.set_cons_succ])
      refine wpAnyH_take (i := 4) (oi := { dst := some 12, op := Op.load 23 (Operand.tmp 5), type := 23, pos := "ref.go:33", after := #[{ on := 3, ground := Ground.guard }], guard := some (3, false) }) (v := ?_) rfl (by kernel_rfl) (by kernel_rfl) (by kernel_rfl) (fun _ _ _ h => h) (Or.inl ⟨by rfl, ?_⟩) (by assumption) ?_
      rotate_left
      · intro w hSw
        (try dsimp only at hSw)
        first | (go_simp; done) | (go_simp; with_reducible rfl)
      (try simp only [Act.put, List.setIfInBounds_toArray, List.set_cons_zero, List.set_cons_succ])
      refine wpAnyH_ready (rs := [5]) (by kernel_rfl) (by simp) ?_
      refine AllReadyH.cons (o := { dst := some 13, op := Op.call { callee := Callee.value (Operand.func 55), args := #[Operand.tmp 12], argTypes := #[23] }, type := 4, pos := "ref.go:33", after := #[{ on := 4, ground := Ground.data }, { on := 3, ground := Ground.chain }, { on := 3, ground := Ground.guard }], guard := some (3, false) }) rfl (fun K hK => ?_) AllReadyH.nil
      go_simp
      refine (KE.out _).mono ?_
      rintro e wx ⟨rfl, jx⟩
      replace nc := nc.trans (jx.mono nc.size)
      clear jx
      refine hK.out _ _ (CS.out _ nc) (fun hHeld => ?_)
      clear hK K
      (try simp only [Act.put, List.setIfInBounds_toArray, List.set_cons_zero, List.set_cons_succ])
      refine wpAnyH_take (i := 6) (oi := { dst := some 14, op := Op.unOp UnOp.not 4 (Operand.tmp 13), type := 4, pos := "ref.go:33", after := #[{ on := 5, ground := Ground.data }, { on := 3, ground := Ground.guard }], guard := some (3, false) }) (v := ?_) rfl (by kernel_rfl) (by kernel_rfl) (by kernel_rfl) (fun _ _ _ h => h) (Or.inl ⟨by rfl, ?_⟩) (by assumption) ?_
      rotate_left
      · intro w hSw
        (try dsimp only at hSw)
        first | (go_simp; done) | (go_simp; with_reducible rfl)
      (try simp only [Act.put, List.setIfInBounds_toArray, List.set_cons_zero, List.set_cons_succ])
      refine wpAnyH_take (i := 7) (oi := { dst := some 15, op := Op.pick (Operand.tmp 11) (Operand.const (Value.bool true)) (Operand.tmp 14), type := 4, pos := "ref.go:33", after := #[{ on := 3, ground := Ground.data }, { on := 6, ground := Ground.data }], guard := none }) (v := ?_) rfl (by kernel_rfl) (by kernel_rfl) (by kernel_rfl) (fun _ _ _ h => h) (Or.inl ⟨by rfl, ?_⟩) (by assumption) ?_
      rotate_left
      · intro w hSw
        (try dsimp only at hSw)
        first | (go_simp; done) | (go_simp; with_reducible rfl)
      (try simp only [Act.put, List.setIfInBounds_toArray, List.set_cons_zero, List.set_cons_succ])
      refine wpAnyH_take (i := 8) (oi := { dst := some 16, op := Op.move (Operand.tmp 15), type := 4, pos := "ref.go:33", after := #[{ on := 7, ground := Ground.data }, { on := 5, ground := Ground.chain }], guard := none }) (v := ?_) rfl (by kernel_rfl) (by kernel_rfl) (by kernel_rfl) (fun _ _ _ h => h) (Or.inl ⟨by rfl, ?_⟩) (by assumption) ?_
      rotate_left
      · intro w hSw
        (try dsimp only at hSw)
        first | (go_simp; done) | (go_simp; with_reducible rfl)
      (try simp only [Act.put, List.setIfInBounds_toArray, List.set_cons_zero, List.set_cons_succ])
      refine wpAnyH_take (i := 9) (oi := { dst := some 17, op := Op.move (Operand.tmp 1), type := 3, pos := "ref.go:33", after := #[{ on := 8, ground := Ground.guard }], guard := some (8, false) }) (v := undef) rfl (by kernel_rfl) (by kernel_rfl) (by kernel_rfl) (fun _ _ _ h => h) (Or.inr ⟨by rfl, rfl⟩) (by assumption) ?_
      (try simp only [Act.put, List.setIfInBounds_toArray, List.set_cons_zero, List.set_cons_succ])
      refine wpAnyH_take (i := 10) (oi := { dst := some 18, op := Op.binOp BinOp.lss 3 (Operand.tmp 17) (Operand.const (Value.int IntKind.i64 0)) 3, type := 4, pos := "ref.go:33", after := #[{ on := 9, ground := Ground.data }, { on := 8, ground := Ground.guard }], guard := some (8, false) }) (v := undef) rfl (by kernel_rfl) (by kernel_rfl) (by kernel_rfl) (fun _ _ _ h => h) (Or.inr ⟨by rfl, rfl⟩) (by assumption) ?_
      (try simp only [Act.put, List.setIfInBounds_toArray, List.set_cons_zero, List.set_cons_succ])
      refine wpAnyH_take (i := 11) (oi := { dst := some 19, op := Op.pick (Operand.tmp 16) (Operand.const (Value.bool true)) (Operand.tmp 18), type := 4, pos := "ref.go:33", after := #[{ on := 8, ground := Ground.data }, { on := 10, ground := Ground.data }], guard := none }) (v := ?_) rfl (by kernel_rfl) (by kernel_rfl) (by kernel_rfl) (fun _ _ _ h => h) (Or.inl ⟨by rfl, ?_⟩) (by assumption) ?_
      rotate_left
      · intro w hSw
        (try dsimp only at hSw)
        first | (go_simp; done) | (go_simp; with_reducible rfl)
      (try simp only [Act.put, List.setIfInBounds_toArray, List.set_cons_zero, List.set_cons_succ])
      refine wpAnyH_take (i := 12) (oi := { dst := some 20, op := Op.move (Operand.tmp 19), type := 4, pos := "ref.go:33", after := #[{ on := 11, ground := Ground.data }, { on := 8, ground := Ground.chain }], guard := none }) (v := ?_) rfl (by kernel_rfl) (by kernel_rfl) (by kernel_rfl) (fun _ _ _ h => h) (Or.inl ⟨by rfl, ?_⟩) (by assumption) ?_
      rotate_left
      · intro w hSw
        (try dsimp only at hSw)
        first | (go_simp; done) | (go_simp; with_reducible rfl)
      (try simp only [Act.put, List.setIfInBounds_toArray, List.set_cons_zero, List.set_cons_succ])
      refine wpAnyH_take (i := 13) (oi := { dst := some 21, op := Op.move (Operand.tmp 1), type := 3, pos := "ref.go:33", after := #[{ on := 12, ground := Ground.guard }], guard := some (12, false) }) (v := undef) rfl (by kernel_rfl) (by kernel_rfl) (by kernel_rfl) (fun _ _ _ h => h) (Or.inr ⟨by rfl, rfl⟩) (by assumption) ?_
      (try simp only [Act.put, List.setIfInBounds_toArray, List.set_cons_zero, List.set_cons_succ])
      refine wpAnyH_take (i := 14) (oi := { dst := some 22, op := Op.binOp BinOp.geq 3 (Operand.tmp 21) (Operand.const (Value.int IntKind.i64 16)) 3, type := 4, pos := "ref.go:33", after := #[{ on := 13, ground := Ground.data }, { on := 12, ground := Ground.guard }], guard := some (12, false) }) (v := undef) rfl (by kernel_rfl) (by kernel_rfl) (by kernel_rfl) (fun _ _ _ h => h) (Or.inr ⟨by rfl, rfl⟩) (by assumption) ?_
      (try simp only [Act.put, List.setIfInBounds_toArray, List.set_cons_zero, List.set_cons_succ])
      refine wpAnyH_take (i := 15) (oi := { dst := some 23, op := Op.pick (Operand.tmp 20) (Operand.const (Value.bool true)) (Operand.tmp 22), type := 4, pos := "ref.go:33", after := #[{ on := 12, ground := Ground.data }, { on := 14, ground := Ground.data }], guard := none }) (v := ?_) rfl (by kernel_rfl) (by kernel_rfl) (by kernel_rfl) (fun _ _ _ h => h) (Or.inl ⟨by rfl, ?_⟩) (by assumption) ?_
      rotate_left
      · intro w hSw
        (try dsimp only at hSw)
        first | (go_simp; done) | (go_simp; with_reducible rfl)
      (try simp only [Act.put, List.setIfInBounds_toArray, List.set_cons_zero, List.set_cons_succ])
      refine wpAnyH_take (i := 16) (oi := { dst := some 24, op := Op.move (Operand.tmp 23), type := 4, pos := "ref.go:33", after := #[{ on := 15, ground := Ground.data }, { on := 12, ground := Ground.chain }], guard := none }) (v := ?_) rfl (by kernel_rfl) (by kernel_rfl) (by kernel_rfl) (fun _ _ _ h => h) (Or.inl ⟨by rfl, ?_⟩) (by assumption) ?_
      rotate_left
      · intro w hSw
        (try dsimp only at hSw)
        first | (go_simp; done) | (go_simp; with_reducible rfl)
      (try simp only [Act.put, List.setIfInBounds_toArray, List.set_cons_zero, List.set_cons_succ])
      refine wpAnyH_take (i := 17) (oi := { dst := some 25, op := Op.fieldAddr 26 (Operand.tmp 3) 0, type := 0, pos := "ref.go:33", after := #[{ on := 16, ground := Ground.guard }], guard := some (16, false) }) (v := undef) rfl (by kernel_rfl) (by kernel_rfl) (by kernel_rfl) (fun _ _ _ h => h) (Or.inr ⟨by rfl, rfl⟩) (by assumption) ?_
      (try simp only [Act.put, List.setIfInBounds_toArray, List.set_cons_zero, List.set_cons_succ])
      refine wpAnyH_take (i := 18) (oi := { dst := some 26, op := Op.load 3 (Operand.tmp 25), type := 3, pos := "ref.go:33", after := #[{ on := 17, ground := Ground.data }, { on := 16, ground := Ground.guard }], guard := some (16, false) }) (v := undef) rfl (by kernel_rfl) (by kernel_rfl) (by kernel_rfl) (fun _ _ _ h => h) (Or.inr ⟨by rfl, rfl⟩) (by assumption) ?_
      (try simp only [Act.put, List.setIfInBounds_toArray, List.set_cons_zero, List.set_cons_succ])
      refine wpAnyH_take (i := 19) (oi := { dst := some 27, op := Op.binOp BinOp.eql 3 (Operand.tmp 26) (Operand.const (Value.int IntKind.i64 1099511627776)) 3, type := 4, pos := "ref.go:33", after := #[{ on := 18, ground := Ground.data }, { on := 16, ground := Ground.guard }], guard := some (16, false) }) (v := undef) rfl (by kernel_rfl) (by kernel_rfl) (by kernel_rfl) (fun _ _ _ h => h) (Or.inr ⟨by rfl, rfl⟩) (by assumption) ?_
      (try simp only [Act.put, List.setIfInBounds_toArray, List.set_cons_zero, List.set_cons_succ])
      refine wpAnyH_take (i := 20) (oi := { dst := some 28, op := Op.pick (Operand.tmp 24) (Operand.const (Value.bool true)) (Operand.tmp 27), type := 4, pos := "ref.go:33", after := #[{ on := 16, ground := Ground.data }, { on := 19, ground := Ground.data }], guard := none }) (v := ?_) rfl (by kernel_rfl) (by kernel_rfl) (by kernel_rfl) (fun _ _ _ h => h) (Or.inl ⟨by rfl, ?_⟩) (by assumption) ?_
      rotate_left
      · intro w hSw
        (try dsimp only at hSw)
        first | (go_simp; done) | (go_simp; with_reducible rfl)
      (try simp only [Act.put, List.setIfInBounds_toArray, List.set_cons_zero, List.set_cons_succ])
      refine wpAnyH_take (i := 21) (oi := { dst := some 29, op := Op.move (Operand.tmp 28), type := 4, pos := "ref.go:33", after := #[{ on := 20, ground := Ground.data }, { on := 16, ground := Ground.chain }], guard := none }) (v := ?_) rfl (by kernel_rfl) (by kernel_rfl) (by kernel_rfl) (fun _ _ _ h => h) (Or.inl ⟨by rfl, ?_⟩) (by assumption) ?_
      rotate_left
      · intro w hSw
        (try dsimp only at hSw)
        first | (go_simp; done) | (go_simp; with_reducible rfl)
      (try simp only [Act.put, List.setIfInBounds_toArray, List.set_cons_zero, List.set_cons_succ])
      refine wpAnyH_take (i := 22) (oi := { dst := some 30, op := Op.load 23 (Operand.tmp 5), type := 23, pos := "ref.go:33", after := #[{ on := 21, ground := Ground.guard }], guard := some (21, false) }) (v := undef) rfl (by kernel_rfl) (by kernel_rfl) (by kernel_rfl) (fun _ _ _ h => h) (Or.inr ⟨by rfl, rfl⟩) (by assumption) ?_
      (try simp only [Act.put, List.setIfInBounds_toArray, List.set_cons_zero, List.set_cons_succ])
      refine wpAnyH_take (i := 23) (oi := { dst := some 31, op := Op.move (Operand.tmp 1), type := 3, pos := "ref.go:33", after := #[{ on := 21, ground := Ground.guard }], guard := some (21, false) }) (v := undef) rfl (by kernel_rfl) (by kernel_rfl) (by kernel_rfl) (fun _ _ _ h => h) (Or.inr ⟨by rfl, rfl⟩) (by assumption) ?_
      (try simp only [Act.put, List.setIfInBounds_toArray, List.set_cons_zero, List.set_cons_succ])
      refine wpAnyH_take (i := 24) (oi := { dst := some 32, op := Op.fieldAddr 26 (Operand.tmp 3) 1, type := 0, pos := "ref.go:33", after := #[{ on := 21, ground := Ground.guard }], guard := some (21, false) }) (v := undef) rfl (by kernel_rfl) (by kernel_rfl) (by kernel_rfl) (fun _ _ _ h => h) (Or.inr ⟨by rfl, rfl⟩) (by assumption) ?_
      (try simp only [Act.put, List.setIfInBounds_toArray, List.set_cons_zero, List.set_cons_succ])
      refine wpAnyH_take (i := 25) (oi := { dst := some 33, op := Op.indexAddr 24 (Operand.tmp 32) (Operand.tmp 31), type := 0, pos := "ref.go:33", after := #[{ on := 24, ground := Ground.data }, { on := 23, ground := Ground.data }, { on := 21, ground := Ground.guard }], guard := some (21, false) }) (v := undef) rfl (by kernel_rfl) (by kernel_rfl) (by kernel_rfl) (fun _ _ _ h => h) (Or.inr ⟨by rfl, rfl⟩) (by assumption) ?_
      (try simp only [Act.put, List.setIfInBounds_toArray, List.set_cons_zero, List.set_cons_succ])
      refine wpAnyH_take (i := 26) (oi := { dst := some 34, op := Op.load 23 (Operand.tmp 33), type := 23, pos := "ref.go:33", after := #[{ on := 25, ground := Ground.data }, { on := 21, ground := Ground.guard }], guard := some (21, false) }) (v := undef) rfl (by kernel_rfl) (by kernel_rfl) (by kernel_rfl) (fun _ _ _ h => h) (Or.inr ⟨by rfl, rfl⟩) (by assumption) ?_
      (try simp only [Act.put, List.setIfInBounds_toArray, List.set_cons_zero, List.set_cons_succ])
      refine wpAnyH_take (i := 27) (oi := { dst := some 35, op := Op.call { callee := Callee.value (Operand.func 78), args := #[Operand.tmp 30, Operand.tmp 34], argTypes := #[23, 23] }, type := 4, pos := "ref.go:33", after := #[{ on := 22, ground := Ground.data }, { on := 26, ground := Ground.data }, { on := 21, ground := Ground.chain }, { on := 21, ground := Ground.guard }], guard := some (21, false) }) (v := undef) rfl (by kernel_rfl) (by kernel_rfl) (by kernel_rfl) (fun _ _ _ h => h) (Or.inr ⟨by rfl, rfl⟩) (by assumption) ?_
      (try simp only [Act.put, List.setIfInBounds_toArray, List.set_cons_zero, List.set_cons_succ])
      refine wpAnyH_take (i := 28) (oi := { dst := some 36, op := Op.unOp UnOp.not 4 (Operand.tmp 35), type := 4, pos := "ref.go:33", after := #[{ on := 27, ground := Ground.data }, { on := 21, ground := Ground.guard }], guard := some (21, false) }) (v := undef) rfl (by kernel_rfl) (by kernel_rfl) (by kernel_rfl) (fun _ _ _ h => h) (Or.inr ⟨by rfl, rfl⟩) (by assumption) ?_
      (try simp only [Act.put, List.setIfInBounds_toArray, List.set_cons_zero, List.set_cons_succ])
      refine wpAnyH_take (i := 29) (oi := { dst := some 37, op := Op.pick (Operand.tmp 29) (Operand.const (Value.bool true)) (Operand.tmp 36), type := 4, pos := "ref.go:33", after := #[{ on := 21, ground := Ground.data }, { on := 28, ground := Ground.data }], guard := none }) (v := ?_) rfl (by kernel_rfl) (by kernel_rfl) (by kernel_rfl) (fun _ _ _ h => h) (Or.inl ⟨by rfl, ?_⟩) (by assumption) ?_
      rotate_left
      · intro w hSw
        (try dsimp only at hSw)
        first | (go_simp; done) | (go_simp; with_reducible rfl)
      (try simp only [Act.put, List.setIfInBounds_toArray, List.set_cons_zero, List.set_cons_succ])
      refine wpAnyH_done (by kernel_rfl) ?_ _
      go_wp2_with fail
      go_meet
      exact ⟨by rw [HO.out]; rfl, nc⟩
  case rest =>
    obtain ⟨hcv, nd⟩ := hcut
    obtain ⟨ok, hok⟩ : ∃ ok, setOk T b (ec, ep, eg, et) = ok := ⟨_, rfl⟩
    rw [hok] at hcv
    subst hcv
    clear x0 x1 x2 x3 x4 x5 nc CE n0 bT
    obtain ⟨bR, L4, bT, bE⟩ := fin.out _ nd
    have hok2 : ok = false := by rw [← hok]; exact HF
    subst hok2
    · have HNO := Lib.hid hok
      simp only [Bool.not_false]
      have s0 := st_tab bR zeroT
      have HS := Lib.hid (nb_full bR zeroT)
      have HBX := Lib.hid (below_setCells (w.heap.size + 2) (by omega) (numL 65 zeroT) 0 w _ L4)
      have HV := Lib.hid (show setV T b (ec, ep, eg, et) = zeroT by unfold setV; rw [HNO.out]; rfl)
      have HN := Lib.hid (show setN T b (ec, ep, eg, et) = 2 by unfold setN; rw [HNO.out]; rfl)
      clear bT bE bR L4 hok nd
      go_wp2
      exact bodyPost_ret (results_agg_tmp rfl _ _ (w.heap.size + 2) _ _ (0, 0) _ rfl HS.out Try.undT rfl (by rw [List.size_toArray, numL_len]; exact Try.sizT)) rfl ⟨by rw [HV.out, HN.out]; rfl, HBX.out⟩
end Go.Proofs.Ythgoopdekllanaa

/- A row set: the document's. -/
namespace Go.Proofs.Ythgoopdekllanaa
open Go.RowKit Go.Shelf
open SumM

attribute [local go_sem] Oper.semAt_some build_tab guard_undef
attribute [local go_sem ↓] zero_tab
attribute [local go_sem ↓] nm_ldT nm_ldA nm_stT

set_option maxRecDepth 100000 in
set_option maxHeartbeats 8000000 in
theorem r10Set_w3 (T : Nat → Int) (b : Int) (ec ep eg et : Int) (HF : setOk T b (ec, ep, eg, et) = false) (H : rgT T = true) (H' : rgt ec ep eg et = true) (h0 : b < 0) (w : World) : Calls Try.prog 61 #[tabV T, .int .i64 b, .agg #[.int .i64 ec, .int .i64 ep, .int .i64 eg, .int .i64 et]] w fun e w' => e = .returned (.tuple #[tabV (setV T b (ec, ep, eg, et)), .int .i64 (setN T b (ec, ep, eg, et))]) ∧ Below w.heap.size w w' := by
  have bT := heap_alloc_new w (.cells (numL 65 T).toArray 26)
  have LT := (Below.refl w.heap.size w).alloc (Nat.le_refl _) (.cells (numL 65 T).toArray 26)
  have hs1 : (w.alloc (.cells (numL 65 T).toArray 26)).heap.size = w.heap.size + 1 := by simp
  go_enter Try.func61, Try.ntmps61
  go_upto_region 1 with (fail)
  generalize w.alloc (.cells (numL 65 T).toArray 26) = Wa at *
  have bE := heap_alloc_new Wa (.cells #[.int .i64 ec, .int .i64 ep, .int .i64 eg, .int .i64 et] 23)
  have bT := (Below.heap_alloc Wa (.cells #[.int .i64 ec, .int .i64 ep, .int .i64 eg, .int .i64 et] 23) _ (by omega)).trans bT
  have LE := LT.alloc LT.size (.cells #[.int .i64 ec, .int .i64 ep, .int .i64 eg, .int .i64 et] 23)
  have hs2 : (Wa.alloc (.cells #[.int .i64 ec, .int .i64 ep, .int .i64 eg, .int .i64 et] 23)).heap.size = w.heap.size + 2 := by simp; omega
  rw [hs1] at bE
  generalize Wa.alloc (.cells #[.int .i64 ec, .int .i64 ep, .int .i64 eg, .int .i64 et] 23) = Wb at *
  have bR := heap_alloc_new Wb (.cells (numL 65 zeroT).toArray 26)
  have bT := (Below.heap_alloc Wb (.cells (numL 65 zeroT).toArray 26) _ (by omega)).trans bT
  have bE := (Below.heap_alloc Wb (.cells (numL 65 zeroT).toArray 26) _ (by omega)).trans bE
  have L0 := LE.alloc LE.size (.cells (numL 65 zeroT).toArray 26)
  rw [hs2] at bR
  generalize Wb.alloc (.cells (numL 65 zeroT).toArray 26) = W0 at *
  clear LT LE hs1 hs2
  have fin : Hid (∀ W2 : World, Below W0.heap.size W0 W2 → NB (w.heap.size + 2) 26 65 zeroT W2 ∧ Below w.heap.size w W2 ∧ NB w.heap.size 26 65 T W2 ∧ W2.heap[w.heap.size + 1]? = some (.cells #[.int .i64 ec, .int .i64 ep, .int .i64 eg, .int .i64 et] 23 (0, 0))) := Lib.hid fun W2 m => ⟨bb bR m, L0.trans (m.mono L0.size), bb bT m, bb bE m⟩
  have n0 := (Below.refl W0.heap.size W0).drew
  have CE := Lib.hid (fun W (m : Below W0.heap.size W0 W) => show (ldS 26 (.pointer (some ⟨w.heap.size, 0, none⟩))).run Try.prog W = .ok (tabV T) W ∧ W.cell? ⟨w.heap.size + 1, 0, none⟩ = some (.int .i64 ec) ∧ W.cell? ⟨w.heap.size + 1, 1, none⟩ = some (.int .i64 ep) ∧ W.cell? ⟨w.heap.size + 1, 2, none⟩ = some (.int .i64 eg) ∧ W.cell? ⟨w.heap.size + 1, 3, none⟩ = some (.int .i64 et) ∧ W.cell? ⟨w.heap.size, 0, none⟩ = some (.int .i64 (T 0)) from
    ⟨ld_tab (bb bT m), (ent_cells _ _ _ _ (bb bE m)).1, (ent_cells _ _ _ _ (bb bE m)).2.1, (ent_cells _ _ _ _ (bb bE m)).2.2.1, (ent_cells _ _ _ _ (bb bE m)).2.2.2, nb_cell (bb bT m) (by omega)⟩)
  have HT := Lib.hid bT
  have nc := n0
  obtain ⟨x0, x1, x2, x3, x4, x5⟩ := CE.out _ nc
  clear bE bR L0
  go_cut [37] (fun v wx => v = .bool (!(setOk T b (ec, ep, eg, et))) ∧ Below W0.heap.size W0 wx)
  case first =>
    obtain ⟨r, hr⟩ : ∃ r, rgT T = r := ⟨_, rfl⟩
    obtain ⟨r', hr'⟩ : ∃ r', rgt ec ep eg et = r' := ⟨_, rfl⟩
    obtain ⟨r2, hr2⟩ : ∃ r2, decide ((rowT T b.toNat).2.2.1 < eg) = r2 := ⟨_, rfl⟩
    have KR := Lib.hid (fun W => hr ▸ r10Right_any T W)
    have KE := Lib.hid (fun W => hr' ▸ r9Right_any ec ep eg et W)
    have KN := Lib.hid (fun W => hr2 ▸ r9Newer_any ec ep eg et (rowT T b.toNat).1 (rowT T b.toNat).2.1 (rowT T b.toNat).2.2.1 (rowT T b.toNat).2.2.2 W)
    have HO : setOk T b (ec, ep, eg, et) = (r && r' && decide (0 ≤ b) && decide (b < 16) && !(T 0 == 1099511627776) && r2) := by
      unfold setOk
      rw [← hr, ← hr', ← hr2]
      rfl
    obtain rfl : r = true := by rw [← hr]; exact H
    obtain rfl : r' = true := by rw [← hr']; exact H'
    clear hr hr' hr2 bT H H'
    · have HO := Lib.hid (show setOk T b (ec, ep, eg, et) = false by rw [HO, show decide (0 ≤ b) = false by simpa using h0]; rfl)
      have e0 : decide (b < 0) = true := by simpa using h0
      clear h0 KN
      have CS := Lib.hid (fun W (m : Below W0.heap.size W0 W) => show (ldS 26 (.pointer (some ⟨w.heap.size, 0, none⟩))).run Try.prog W = .ok (tabV T) W ∧ W.cell? ⟨w.heap.size + 1, 0, none⟩ = some (.int .i64 ec) ∧ W.cell? ⟨w.heap.size + 1, 1, none⟩ = some (.int .i64 ep) ∧ W.cell? ⟨w.heap.size + 1, 2, none⟩ = some (.int .i64 eg) ∧ W.cell? ⟨w.heap.size + 1, 3, none⟩ = some (.int .i64 et) ∧ W.cell? ⟨w.heap.size, 0, none⟩ = some (.int .i64 (T 0)) from CE.out W m)
      clear x0 x1 x2 x3 x4 x5
      refine wp_region_held_drew (S := fun W => (ldS 26 (.pointer (some ⟨w.heap.size, 0, none⟩))).run Try.prog W = .ok (tabV T) W ∧ W.cell? ⟨w.heap.size + 1, 0, none⟩ = some (.int .i64 ec) ∧ W.cell? ⟨w.heap.size + 1, 1, none⟩ = some (.int .i64 ep) ∧ W.cell? ⟨w.heap.size + 1, 2, none⟩ = some (.int .i64 eg) ∧ W.cell? ⟨w.heap.size + 1, 3, none⟩ = some (.int .i64 et) ∧ W.cell? ⟨w.heap.size, 0, none⟩ = some (.int .i64 (T 0))) (by kernel_rfl) (CS.out _ nc) (fun hHeld => ?_)
      refine wpAnyH_take (i := 0) (oi := { dst := some 8, op := Op.load 26 (Operand.tmp 3), type := 26, pos := "ref.go:33", after := #[], guard := none }) (v := ?_) rfl (by kernel_rfl) (by kernel_rfl) (by kernel_rfl) (fun _ _ _ h => h) (Or.inl ⟨by rfl, ?_⟩) (by assumption) ?_
      rotate_left
      · intro w hSw
        (try dsimp only at hSw)
        first | (go_simp; done) | (go_simp; with_reducible rfl)
      (try simp only [Act.put, List.setIfInBounds_toArray, List.set_cons_zero, List.set_cons_succ])
      refine wpAnyH_ready (rs := [1]) (by kernel_rfl) (by simp) ?_
      refine AllReadyH.cons (o := { dst := some 9, op := Op.call { callee := Callee.value (Operand.func 45), args := #[Operand.tmp 8], argTypes := #[26] }, type := 4, pos := "ref.go:33", after := #[{ on := 0, ground := Ground.data }], guard := none }) rfl (fun K hK => ?_) AllReadyH.nil
      go_simp
      refine (KR.out _).mono ?_
      rintro e wx ⟨rfl, jx⟩
      replace nc := nc.trans (jx.mono nc.size)
      clear jx
      refine hK.out _ _ (CS.out _ nc) (fun hHeld => ?_)
      clear hK K
      (try simp only [Act.put, List.setIfInBounds_toArray, List.set_cons_zero, List.set_cons_succ])
      refine wpAnyH_take (i := 2) (oi := { dst := some 10, op := Op.unOp UnOp.not 4 (Operand.tmp 9), type := 4, pos := "ref.go:33", after := #[{ on := 1, ground := Ground.data }], guard := none }) (v := ?_) rfl (by kernel_rfl) (by kernel_rfl) (by kernel_rfl) (fun _ _ _ h => h) (Or.inl ⟨by rfl, ?_⟩) (by assumption) ?_
      rotate_left
      · intro w hSw
        (try dsimp only at hSw)
        first | (go_simp; done) | (go_simp; with_reducible rfl)
      (try simp only [Act.put, List.setIfInBounds_toArray, List.set_cons_zero, List.set_cons_succ])
      refine wpAnyH_take (i := 3) (oi := { dst := some 11, op := Op.move (Operand.tmp 10), type := 4, pos := "ref.go:33", after := #[{ on := 2, ground := Ground.data }, { on := 1, ground := Ground.chain }], guard := none }) (v := ?_) rfl (by kernel_rfl) (by kernel_rfl) (by kernel_rfl) (fun _ _ _ h => h) (Or.inl ⟨by rfl, ?_⟩) (by assumption) ?_
      rotate_left
      · intro w hSw
        (try dsimp only at hSw)
        first | (go_simp; done) | (go_simp; with_reducible rfl)
      (try simp only [Act.put, List.setIfInBounds_toArray, List.set_cons_zero, List.set_cons_succ])
      refine wpAnyH_take (i := 4) (oi := { dst := some 12, op := Op.load 23 (Operand.tmp 5), type := 23, pos := "ref.go:33", after := #[{ on := 3, ground := Ground.guard }], guard := some (3, false) }) (v := ?_) rfl (by kernel_rfl) (by kernel_rfl) (by kernel_rfl) (fun _ _ _ h => h) (Or.inl ⟨by rfl, ?_⟩) (by assumption) ?_
      rotate_left
      · intro w hSw
        (try dsimp only at hSw)
        first | (go_simp; done) | (go_simp; with_reducible rfl)
      (try simp only [Act.put, List.setIfInBounds_toArray, List.set_cons_zero, List.set_cons_succ])
      refine wpAnyH_ready (rs := [5]) (by kernel_rfl) (by simp) ?_
      refine AllReadyH.cons (o := { dst := some 13, op := Op.call { callee := Callee.value (Operand.func 55), args := #[Operand.tmp 12], argTypes := #[23] }, type := 4, pos := "ref.go:33", after := #[{ on := 4, ground := Ground.data }, { on := 3, ground := Ground.chain }, { on := 3, ground := Ground.guard }], guard := some (3, false) }) rfl (fun K hK => ?_) AllReadyH.nil
      go_simp
      refine (KE.out _).mono ?_
      rintro e wx ⟨rfl, jx⟩
      replace nc := nc.trans (jx.mono nc.size)
      clear jx
      refine hK.out _ _ (CS.out _ nc) (fun hHeld => ?_)
      clear hK K
      (try simp only [Act.put, List.setIfInBounds_toArray, List.set_cons_zero, List.set_cons_succ])
      refine wpAnyH_take (i := 6) (oi := { dst := some 14, op := Op.unOp UnOp.not 4 (Operand.tmp 13), type := 4, pos := "ref.go:33", after := #[{ on := 5, ground := Ground.data }, { on := 3, ground := Ground.guard }], guard := some (3, false) }) (v := ?_) rfl (by kernel_rfl) (by kernel_rfl) (by kernel_rfl) (fun _ _ _ h => h) (Or.inl ⟨by rfl, ?_⟩) (by assumption) ?_
      rotate_left
      · intro w hSw
        (try dsimp only at hSw)
        first | (go_simp; done) | (go_simp; with_reducible rfl)
      (try simp only [Act.put, List.setIfInBounds_toArray, List.set_cons_zero, List.set_cons_succ])
      refine wpAnyH_take (i := 7) (oi := { dst := some 15, op := Op.pick (Operand.tmp 11) (Operand.const (Value.bool true)) (Operand.tmp 14), type := 4, pos := "ref.go:33", after := #[{ on := 3, ground := Ground.data }, { on := 6, ground := Ground.data }], guard := none }) (v := ?_) rfl (by kernel_rfl) (by kernel_rfl) (by kernel_rfl) (fun _ _ _ h => h) (Or.inl ⟨by rfl, ?_⟩) (by assumption) ?_
      rotate_left
      · intro w hSw
        (try dsimp only at hSw)
        first | (go_simp; done) | (go_simp; with_reducible rfl)
      (try simp only [Act.put, List.setIfInBounds_toArray, List.set_cons_zero, List.set_cons_succ])
      refine wpAnyH_take (i := 8) (oi := { dst := some 16, op := Op.move (Operand.tmp 15), type := 4, pos := "ref.go:33", after := #[{ on := 7, ground := Ground.data }, { on := 5, ground := Ground.chain }], guard := none }) (v := ?_) rfl (by kernel_rfl) (by kernel_rfl) (by kernel_rfl) (fun _ _ _ h => h) (Or.inl ⟨by rfl, ?_⟩) (by assumption) ?_
      rotate_left
      · intro w hSw
        (try dsimp only at hSw)
        first | (go_simp; done) | (go_simp; with_reducible rfl)
      (try simp only [Act.put, List.setIfInBounds_toArray, List.set_cons_zero, List.set_cons_succ])
      refine wpAnyH_take (i := 9) (oi := { dst := some 17, op := Op.move (Operand.tmp 1), type := 3, pos := "ref.go:33", after := #[{ on := 8, ground := Ground.guard }], guard := some (8, false) }) (v := ?_) rfl (by kernel_rfl) (by kernel_rfl) (by kernel_rfl) (fun _ _ _ h => h) (Or.inl ⟨by rfl, ?_⟩) (by assumption) ?_
      rotate_left
      · intro w hSw
        (try dsimp only at hSw)
        first | (go_simp; done) | (go_simp; with_reducible rfl)
      (try simp only [Act.put, List.setIfInBounds_toArray, List.set_cons_zero, List.set_cons_succ])
      refine wpAnyH_take (i := 10) (oi := { dst := some 18, op := Op.binOp BinOp.lss 3 (Operand.tmp 17) (Operand.const (Value.int IntKind.i64 0)) 3, type := 4, pos := "ref.go:33", after := #[{ on := 9, ground := Ground.data }, { on := 8, ground := Ground.guard }], guard := some (8, false) }) (v := ?_) rfl (by kernel_rfl) (by kernel_rfl) (by kernel_rfl) (fun _ _ _ h => h) (Or.inl ⟨by rfl, ?_⟩) (by assumption) ?_
      rotate_left
      · intro w hSw
        (try dsimp only at hSw)
        first | (go_simp; done) | (go_simp; with_reducible rfl)
      (try simp only [Act.put, List.setIfInBounds_toArray, List.set_cons_zero, List.set_cons_succ])
      refine wpAnyH_take (i := 11) (oi := { dst := some 19, op := Op.pick (Operand.tmp 16) (Operand.const (Value.bool true)) (Operand.tmp 18), type := 4, pos := "ref.go:33", after := #[{ on := 8, ground := Ground.data }, { on := 10, ground := Ground.data }], guard := none }) (v := ?_) rfl (by kernel_rfl) (by kernel_rfl) (by kernel_rfl) (fun _ _ _ h => h) (Or.inl ⟨by rfl, ?_⟩) (by assumption) ?_
      rotate_left
      · intro w hSw
        (try dsimp only at hSw)
        first | (go_simp; done) | (go_simp; with_reducible rfl)
      (try simp only [Act.put, List.setIfInBounds_toArray, List.set_cons_zero, List.set_cons_succ])
      refine wpAnyH_take (i := 12) (oi := { dst := some 20, op := Op.move (Operand.tmp 19), type := 4, pos := "ref.go:33", after := #[{ on := 11, ground := Ground.data }, { on := 8, ground := Ground.chain }], guard := none }) (v := ?_) rfl (by kernel_rfl) (by kernel_rfl) (by kernel_rfl) (fun _ _ _ h => h) (Or.inl ⟨by rfl, ?_⟩) (by assumption) ?_
      rotate_left
      · intro w hSw
        (try dsimp only at hSw)
        first | (go_simp; done) | (go_simp; with_reducible rfl)
      (try simp only [Act.put, List.setIfInBounds_toArray, List.set_cons_zero, List.set_cons_succ])
      refine wpAnyH_take (i := 13) (oi := { dst := some 21, op := Op.move (Operand.tmp 1), type := 3, pos := "ref.go:33", after := #[{ on := 12, ground := Ground.guard }], guard := some (12, false) }) (v := undef) rfl (by kernel_rfl) (by kernel_rfl) (by kernel_rfl) (fun _ _ _ h => h) (Or.inr ⟨by rfl, rfl⟩) (by assumption) ?_
      (try simp only [Act.put, List.setIfInBounds_toArray, List.set_cons_zero, List.set_cons_succ])
      refine wpAnyH_take (i := 14) (oi := { dst := some 22, op := Op.binOp BinOp.geq 3 (Operand.tmp 21) (Operand.const (Value.int IntKind.i64 16)) 3, type := 4, pos := "ref.go:33", after := #[{ on := 13, ground := Ground.data }, { on := 12, ground := Ground.guard }], guard := some (12, false) }) (v := undef) rfl (by kernel_rfl) (by kernel_rfl) (by kernel_rfl) (fun _ _ _ h => h) (Or.inr ⟨by rfl, rfl⟩) (by assumption) ?_
      (try simp only [Act.put, List.setIfInBounds_toArray, List.set_cons_zero, List.set_cons_succ])
      refine wpAnyH_take (i := 15) (oi := { dst := some 23, op := Op.pick (Operand.tmp 20) (Operand.const (Value.bool true)) (Operand.tmp 22), type := 4, pos := "ref.go:33", after := #[{ on := 12, ground := Ground.data }, { on := 14, ground := Ground.data }], guard := none }) (v := ?_) rfl (by kernel_rfl) (by kernel_rfl) (by kernel_rfl) (fun _ _ _ h => h) (Or.inl ⟨by rfl, ?_⟩) (by assumption) ?_
      rotate_left
      · intro w hSw
        (try dsimp only at hSw)
        first | (go_simp; done) | (go_simp; with_reducible rfl)
      (try simp only [Act.put, List.setIfInBounds_toArray, List.set_cons_zero, List.set_cons_succ])
      refine wpAnyH_take (i := 16) (oi := { dst := some 24, op := Op.move (Operand.tmp 23), type := 4, pos := "ref.go:33", after := #[{ on := 15, ground := Ground.data }, { on := 12, ground := Ground.chain }], guard := none }) (v := ?_) rfl (by kernel_rfl) (by kernel_rfl) (by kernel_rfl) (fun _ _ _ h => h) (Or.inl ⟨by rfl, ?_⟩) (by assumption) ?_
      rotate_left
      · intro w hSw
        (try dsimp only at hSw)
        first | (go_simp; done) | (go_simp; with_reducible rfl)
      (try simp only [Act.put, List.setIfInBounds_toArray, List.set_cons_zero, List.set_cons_succ])
      refine wpAnyH_take (i := 17) (oi := { dst := some 25, op := Op.fieldAddr 26 (Operand.tmp 3) 0, type := 0, pos := "ref.go:33", after := #[{ on := 16, ground := Ground.guard }], guard := some (16, false) }) (v := undef) rfl (by kernel_rfl) (by kernel_rfl) (by kernel_rfl) (fun _ _ _ h => h) (Or.inr ⟨by rfl, rfl⟩) (by assumption) ?_
      (try simp only [Act.put, List.setIfInBounds_toArray, List.set_cons_zero, List.set_cons_succ])
      refine wpAnyH_take (i := 18) (oi := { dst := some 26, op := Op.load 3 (Operand.tmp 25), type := 3, pos := "ref.go:33", after := #[{ on := 17, ground := Ground.data }, { on := 16, ground := Ground.guard }], guard := some (16, false) }) (v := undef) rfl (by kernel_rfl) (by kernel_rfl) (by kernel_rfl) (fun _ _ _ h => h) (Or.inr ⟨by rfl, rfl⟩) (by assumption) ?_
      (try simp only [Act.put, List.setIfInBounds_toArray, List.set_cons_zero, List.set_cons_succ])
      refine wpAnyH_take (i := 19) (oi := { dst := some 27, op := Op.binOp BinOp.eql 3 (Operand.tmp 26) (Operand.const (Value.int IntKind.i64 1099511627776)) 3, type := 4, pos := "ref.go:33", after := #[{ on := 18, ground := Ground.data }, { on := 16, ground := Ground.guard }], guard := some (16, false) }) (v := undef) rfl (by kernel_rfl) (by kernel_rfl) (by kernel_rfl) (fun _ _ _ h => h) (Or.inr ⟨by rfl, rfl⟩) (by assumption) ?_
      (try simp only [Act.put, List.setIfInBounds_toArray, List.set_cons_zero, List.set_cons_succ])
      refine wpAnyH_take (i := 20) (oi := { dst := some 28, op := Op.pick (Operand.tmp 24) (Operand.const (Value.bool true)) (Operand.tmp 27), type := 4, pos := "ref.go:33", after := #[{ on := 16, ground := Ground.data }, { on := 19, ground := Ground.data }], guard := none }) (v := ?_) rfl (by kernel_rfl) (by kernel_rfl) (by kernel_rfl) (fun _ _ _ h => h) (Or.inl ⟨by rfl, ?_⟩) (by assumption) ?_
      rotate_left
      · intro w hSw
        (try dsimp only at hSw)
        first | (go_simp; done) | (go_simp; with_reducible rfl)
      (try simp only [Act.put, List.setIfInBounds_toArray, List.set_cons_zero, List.set_cons_succ])
      refine wpAnyH_take (i := 21) (oi := { dst := some 29, op := Op.move (Operand.tmp 28), type := 4, pos := "ref.go:33", after := #[{ on := 20, ground := Ground.data }, { on := 16, ground := Ground.chain }], guard := none }) (v := ?_) rfl (by kernel_rfl) (by kernel_rfl) (by kernel_rfl) (fun _ _ _ h => h) (Or.inl ⟨by rfl, ?_⟩) (by assumption) ?_
      rotate_left
      · intro w hSw
        (try dsimp only at hSw)
        first | (go_simp; done) | (go_simp; with_reducible rfl)
      (try simp only [Act.put, List.setIfInBounds_toArray, List.set_cons_zero, List.set_cons_succ])
      refine wpAnyH_take (i := 22) (oi := { dst := some 30, op := Op.load 23 (Operand.tmp 5), type := 23, pos := "ref.go:33", after := #[{ on := 21, ground := Ground.guard }], guard := some (21, false) }) (v := undef) rfl (by kernel_rfl) (by kernel_rfl) (by kernel_rfl) (fun _ _ _ h => h) (Or.inr ⟨by rfl, rfl⟩) (by assumption) ?_
      (try simp only [Act.put, List.setIfInBounds_toArray, List.set_cons_zero, List.set_cons_succ])
      refine wpAnyH_take (i := 23) (oi := { dst := some 31, op := Op.move (Operand.tmp 1), type := 3, pos := "ref.go:33", after := #[{ on := 21, ground := Ground.guard }], guard := some (21, false) }) (v := undef) rfl (by kernel_rfl) (by kernel_rfl) (by kernel_rfl) (fun _ _ _ h => h) (Or.inr ⟨by rfl, rfl⟩) (by assumption) ?_
      (try simp only [Act.put, List.setIfInBounds_toArray, List.set_cons_zero, List.set_cons_succ])
      refine wpAnyH_take (i := 24) (oi := { dst := some 32, op := Op.fieldAddr 26 (Operand.tmp 3) 1, type := 0, pos := "ref.go:33", after := #[{ on := 21, ground := Ground.guard }], guard := some (21, false) }) (v := undef) rfl (by kernel_rfl) (by kernel_rfl) (by kernel_rfl) (fun _ _ _ h => h) (Or.inr ⟨by rfl, rfl⟩) (by assumption) ?_
      (try simp only [Act.put, List.setIfInBounds_toArray, List.set_cons_zero, List.set_cons_succ])
      refine wpAnyH_take (i := 25) (oi := { dst := some 33, op := Op.indexAddr 24 (Operand.tmp 32) (Operand.tmp 31), type := 0, pos := "ref.go:33", after := #[{ on := 24, ground := Ground.data }, { on := 23, ground := Ground.data }, { on := 21, ground := Ground.guard }], guard := some (21, false) }) (v := undef) rfl (by kernel_rfl) (by kernel_rfl) (by kernel_rfl) (fun _ _ _ h => h) (Or.inr ⟨by rfl, rfl⟩) (by assumption) ?_
      (try simp only [Act.put, List.setIfInBounds_toArray, List.set_cons_zero, List.set_cons_succ])
      refine wpAnyH_take (i := 26) (oi := { dst := some 34, op := Op.load 23 (Operand.tmp 33), type := 23, pos := "ref.go:33", after := #[{ on := 25, ground := Ground.data }, { on := 21, ground := Ground.guard }], guard := some (21, false) }) (v := undef) rfl (by kernel_rfl) (by kernel_rfl) (by kernel_rfl) (fun _ _ _ h => h) (Or.inr ⟨by rfl, rfl⟩) (by assumption) ?_
      (try simp only [Act.put, List.setIfInBounds_toArray, List.set_cons_zero, List.set_cons_succ])
      refine wpAnyH_take (i := 27) (oi := { dst := some 35, op := Op.call { callee := Callee.value (Operand.func 78), args := #[Operand.tmp 30, Operand.tmp 34], argTypes := #[23, 23] }, type := 4, pos := "ref.go:33", after := #[{ on := 22, ground := Ground.data }, { on := 26, ground := Ground.data }, { on := 21, ground := Ground.chain }, { on := 21, ground := Ground.guard }], guard := some (21, false) }) (v := undef) rfl (by kernel_rfl) (by kernel_rfl) (by kernel_rfl) (fun _ _ _ h => h) (Or.inr ⟨by rfl, rfl⟩) (by assumption) ?_
      (try simp only [Act.put, List.setIfInBounds_toArray, List.set_cons_zero, List.set_cons_succ])
      refine wpAnyH_take (i := 28) (oi := { dst := some 36, op := Op.unOp UnOp.not 4 (Operand.tmp 35), type := 4, pos := "ref.go:33", after := #[{ on := 27, ground := Ground.data }, { on := 21, ground := Ground.guard }], guard := some (21, false) }) (v := undef) rfl (by kernel_rfl) (by kernel_rfl) (by kernel_rfl) (fun _ _ _ h => h) (Or.inr ⟨by rfl, rfl⟩) (by assumption) ?_
      (try simp only [Act.put, List.setIfInBounds_toArray, List.set_cons_zero, List.set_cons_succ])
      refine wpAnyH_take (i := 29) (oi := { dst := some 37, op := Op.pick (Operand.tmp 29) (Operand.const (Value.bool true)) (Operand.tmp 36), type := 4, pos := "ref.go:33", after := #[{ on := 21, ground := Ground.data }, { on := 28, ground := Ground.data }], guard := none }) (v := ?_) rfl (by kernel_rfl) (by kernel_rfl) (by kernel_rfl) (fun _ _ _ h => h) (Or.inl ⟨by rfl, ?_⟩) (by assumption) ?_
      rotate_left
      · intro w hSw
        (try dsimp only at hSw)
        first | (go_simp; done) | (go_simp; with_reducible rfl)
      (try simp only [Act.put, List.setIfInBounds_toArray, List.set_cons_zero, List.set_cons_succ])
      refine wpAnyH_done (by kernel_rfl) ?_ _
      go_wp2_with fail
      go_meet
      exact ⟨by rw [HO.out]; rfl, nc⟩
  case rest =>
    obtain ⟨hcv, nd⟩ := hcut
    obtain ⟨ok, hok⟩ : ∃ ok, setOk T b (ec, ep, eg, et) = ok := ⟨_, rfl⟩
    rw [hok] at hcv
    subst hcv
    clear h0 x0 x1 x2 x3 x4 x5 nc CE n0 bT
    obtain ⟨bR, L4, bT, bE⟩ := fin.out _ nd
    have hok2 : ok = false := by rw [← hok]; exact HF
    subst hok2
    · have HNO := Lib.hid hok
      simp only [Bool.not_false]
      have s0 := st_tab bR zeroT
      have HS := Lib.hid (nb_full bR zeroT)
      have HBX := Lib.hid (below_setCells (w.heap.size + 2) (by omega) (numL 65 zeroT) 0 w _ L4)
      have HV := Lib.hid (show setV T b (ec, ep, eg, et) = zeroT by unfold setV; rw [HNO.out]; rfl)
      have HN := Lib.hid (show setN T b (ec, ep, eg, et) = 2 by unfold setN; rw [HNO.out]; rfl)
      clear bT bE bR L4 hok nd
      go_wp2
      exact bodyPost_ret (results_agg_tmp rfl _ _ (w.heap.size + 2) _ _ (0, 0) _ rfl HS.out Try.undT rfl (by rw [List.size_toArray, numL_len]; exact Try.sizT)) rfl ⟨by rw [HV.out, HN.out]; rfl, HBX.out⟩
end Go.Proofs.Ythgoopdekllanaa

/- A row set: the document's. -/
namespace Go.Proofs.Ythgoopdekllanaa
open Go.RowKit Go.Shelf
open SumM

attribute [local go_sem] Oper.semAt_some build_tab guard_undef
attribute [local go_sem ↓] zero_tab
attribute [local go_sem ↓] nm_ldT nm_ldA nm_stT

set_option maxRecDepth 100000 in
set_option maxHeartbeats 8000000 in
theorem r10Set_w4 (T : Nat → Int) (b : Int) (ec ep eg et : Int) (HF : setOk T b (ec, ep, eg, et) = false) (H : rgT T = true) (H' : rgt ec ep eg et = true) (h0 : ¬ b < 0) (h1 : 16 ≤ b) (w : World) : Calls Try.prog 61 #[tabV T, .int .i64 b, .agg #[.int .i64 ec, .int .i64 ep, .int .i64 eg, .int .i64 et]] w fun e w' => e = .returned (.tuple #[tabV (setV T b (ec, ep, eg, et)), .int .i64 (setN T b (ec, ep, eg, et))]) ∧ Below w.heap.size w w' := by
  have bT := heap_alloc_new w (.cells (numL 65 T).toArray 26)
  have LT := (Below.refl w.heap.size w).alloc (Nat.le_refl _) (.cells (numL 65 T).toArray 26)
  have hs1 : (w.alloc (.cells (numL 65 T).toArray 26)).heap.size = w.heap.size + 1 := by simp
  go_enter Try.func61, Try.ntmps61
  go_upto_region 1 with (fail)
  generalize w.alloc (.cells (numL 65 T).toArray 26) = Wa at *
  have bE := heap_alloc_new Wa (.cells #[.int .i64 ec, .int .i64 ep, .int .i64 eg, .int .i64 et] 23)
  have bT := (Below.heap_alloc Wa (.cells #[.int .i64 ec, .int .i64 ep, .int .i64 eg, .int .i64 et] 23) _ (by omega)).trans bT
  have LE := LT.alloc LT.size (.cells #[.int .i64 ec, .int .i64 ep, .int .i64 eg, .int .i64 et] 23)
  have hs2 : (Wa.alloc (.cells #[.int .i64 ec, .int .i64 ep, .int .i64 eg, .int .i64 et] 23)).heap.size = w.heap.size + 2 := by simp; omega
  rw [hs1] at bE
  generalize Wa.alloc (.cells #[.int .i64 ec, .int .i64 ep, .int .i64 eg, .int .i64 et] 23) = Wb at *
  have bR := heap_alloc_new Wb (.cells (numL 65 zeroT).toArray 26)
  have bT := (Below.heap_alloc Wb (.cells (numL 65 zeroT).toArray 26) _ (by omega)).trans bT
  have bE := (Below.heap_alloc Wb (.cells (numL 65 zeroT).toArray 26) _ (by omega)).trans bE
  have L0 := LE.alloc LE.size (.cells (numL 65 zeroT).toArray 26)
  rw [hs2] at bR
  generalize Wb.alloc (.cells (numL 65 zeroT).toArray 26) = W0 at *
  clear LT LE hs1 hs2
  have fin : Hid (∀ W2 : World, Below W0.heap.size W0 W2 → NB (w.heap.size + 2) 26 65 zeroT W2 ∧ Below w.heap.size w W2 ∧ NB w.heap.size 26 65 T W2 ∧ W2.heap[w.heap.size + 1]? = some (.cells #[.int .i64 ec, .int .i64 ep, .int .i64 eg, .int .i64 et] 23 (0, 0))) := Lib.hid fun W2 m => ⟨bb bR m, L0.trans (m.mono L0.size), bb bT m, bb bE m⟩
  have n0 := (Below.refl W0.heap.size W0).drew
  have CE := Lib.hid (fun W (m : Below W0.heap.size W0 W) => show (ldS 26 (.pointer (some ⟨w.heap.size, 0, none⟩))).run Try.prog W = .ok (tabV T) W ∧ W.cell? ⟨w.heap.size + 1, 0, none⟩ = some (.int .i64 ec) ∧ W.cell? ⟨w.heap.size + 1, 1, none⟩ = some (.int .i64 ep) ∧ W.cell? ⟨w.heap.size + 1, 2, none⟩ = some (.int .i64 eg) ∧ W.cell? ⟨w.heap.size + 1, 3, none⟩ = some (.int .i64 et) ∧ W.cell? ⟨w.heap.size, 0, none⟩ = some (.int .i64 (T 0)) from
    ⟨ld_tab (bb bT m), (ent_cells _ _ _ _ (bb bE m)).1, (ent_cells _ _ _ _ (bb bE m)).2.1, (ent_cells _ _ _ _ (bb bE m)).2.2.1, (ent_cells _ _ _ _ (bb bE m)).2.2.2, nb_cell (bb bT m) (by omega)⟩)
  have HT := Lib.hid bT
  have nc := n0
  obtain ⟨x0, x1, x2, x3, x4, x5⟩ := CE.out _ nc
  clear bE bR L0
  go_cut [37] (fun v wx => v = .bool (!(setOk T b (ec, ep, eg, et))) ∧ Below W0.heap.size W0 wx)
  case first =>
    obtain ⟨r, hr⟩ : ∃ r, rgT T = r := ⟨_, rfl⟩
    obtain ⟨r', hr'⟩ : ∃ r', rgt ec ep eg et = r' := ⟨_, rfl⟩
    obtain ⟨r2, hr2⟩ : ∃ r2, decide ((rowT T b.toNat).2.2.1 < eg) = r2 := ⟨_, rfl⟩
    have KR := Lib.hid (fun W => hr ▸ r10Right_any T W)
    have KE := Lib.hid (fun W => hr' ▸ r9Right_any ec ep eg et W)
    have KN := Lib.hid (fun W => hr2 ▸ r9Newer_any ec ep eg et (rowT T b.toNat).1 (rowT T b.toNat).2.1 (rowT T b.toNat).2.2.1 (rowT T b.toNat).2.2.2 W)
    have HO : setOk T b (ec, ep, eg, et) = (r && r' && decide (0 ≤ b) && decide (b < 16) && !(T 0 == 1099511627776) && r2) := by
      unfold setOk
      rw [← hr, ← hr', ← hr2]
      rfl
    obtain rfl : r = true := by rw [← hr]; exact H
    obtain rfl : r' = true := by rw [← hr']; exact H'
    clear hr hr' hr2 bT H H'
    rw [show decide (0 ≤ b) = true by simpa using h0] at HO
    have e0 : decide (b < 0) = false := by simpa using h0
    · have HO := Lib.hid (show setOk T b (ec, ep, eg, et) = false by rw [HO, show decide (b < 16) = false by simpa using h1]; rfl)
      have e1 : decide (16 ≤ b) = true := by simpa using h1
      clear h0 h1 KN
      have CS := Lib.hid (fun W (m : Below W0.heap.size W0 W) => show (ldS 26 (.pointer (some ⟨w.heap.size, 0, none⟩))).run Try.prog W = .ok (tabV T) W ∧ W.cell? ⟨w.heap.size + 1, 0, none⟩ = some (.int .i64 ec) ∧ W.cell? ⟨w.heap.size + 1, 1, none⟩ = some (.int .i64 ep) ∧ W.cell? ⟨w.heap.size + 1, 2, none⟩ = some (.int .i64 eg) ∧ W.cell? ⟨w.heap.size + 1, 3, none⟩ = some (.int .i64 et) ∧ W.cell? ⟨w.heap.size, 0, none⟩ = some (.int .i64 (T 0)) from CE.out W m)
      clear x0 x1 x2 x3 x4 x5
      refine wp_region_held_drew (S := fun W => (ldS 26 (.pointer (some ⟨w.heap.size, 0, none⟩))).run Try.prog W = .ok (tabV T) W ∧ W.cell? ⟨w.heap.size + 1, 0, none⟩ = some (.int .i64 ec) ∧ W.cell? ⟨w.heap.size + 1, 1, none⟩ = some (.int .i64 ep) ∧ W.cell? ⟨w.heap.size + 1, 2, none⟩ = some (.int .i64 eg) ∧ W.cell? ⟨w.heap.size + 1, 3, none⟩ = some (.int .i64 et) ∧ W.cell? ⟨w.heap.size, 0, none⟩ = some (.int .i64 (T 0))) (by kernel_rfl) (CS.out _ nc) (fun hHeld => ?_)
      refine wpAnyH_take (i := 0) (oi := { dst := some 8, op := Op.load 26 (Operand.tmp 3), type := 26, pos := "ref.go:33", after := #[], guard := none }) (v := ?_) rfl (by kernel_rfl) (by kernel_rfl) (by kernel_rfl) (fun _ _ _ h => h) (Or.inl ⟨by rfl, ?_⟩) (by assumption) ?_
      rotate_left
      · intro w hSw
        (try dsimp only at hSw)
        first | (go_simp; done) | (go_simp; with_reducible rfl)
      (try simp only [Act.put, List.setIfInBounds_toArray, List.set_cons_zero, List.set_cons_succ])
      refine wpAnyH_ready (rs := [1]) (by kernel_rfl) (by simp) ?_
      refine AllReadyH.cons (o := { dst := some 9, op := Op.call { callee := Callee.value (Operand.func 45), args := #[Operand.tmp 8], argTypes := #[26] }, type := 4, pos := "ref.go:33", after := #[{ on := 0, ground := Ground.data }], guard := none }) rfl (fun K hK => ?_) AllReadyH.nil
      go_simp
      refine (KR.out _).mono ?_
      rintro e wx ⟨rfl, jx⟩
      replace nc := nc.trans (jx.mono nc.size)
      clear jx
      refine hK.out _ _ (CS.out _ nc) (fun hHeld => ?_)
      clear hK K
      (try simp only [Act.put, List.setIfInBounds_toArray, List.set_cons_zero, List.set_cons_succ])
      refine wpAnyH_take (i := 2) (oi := { dst := some 10, op := Op.unOp UnOp.not 4 (Operand.tmp 9), type := 4, pos := "ref.go:33", after := #[{ on := 1, ground := Ground.data }], guard := none }) (v := ?_) rfl (by kernel_rfl) (by kernel_rfl) (by kernel_rfl) (fun _ _ _ h => h) (Or.inl ⟨by rfl, ?_⟩) (by assumption) ?_
      rotate_left
      · intro w hSw
        (try dsimp only at hSw)
        first | (go_simp; done) | (go_simp; with_reducible rfl)
      (try simp only [Act.put, List.setIfInBounds_toArray, List.set_cons_zero, List.set_cons_succ])
      refine wpAnyH_take (i := 3) (oi := { dst := some 11, op := Op.move (Operand.tmp 10), type := 4, pos := "ref.go:33", after := #[{ on := 2, ground := Ground.data }, { on := 1, ground := Ground.chain }], guard := none }) (v := ?_) rfl (by kernel_rfl) (by kernel_rfl) (by kernel_rfl) (fun _ _ _ h => h) (Or.inl ⟨by rfl, ?_⟩) (by assumption) ?_
      rotate_left
      · intro w hSw
        (try dsimp only at hSw)
        first | (go_simp; done) | (go_simp; with_reducible rfl)
      (try simp only [Act.put, List.setIfInBounds_toArray, List.set_cons_zero, List.set_cons_succ])
      refine wpAnyH_take (i := 4) (oi := { dst := some 12, op := Op.load 23 (Operand.tmp 5), type := 23, pos := "ref.go:33", after := #[{ on := 3, ground := Ground.guard }], guard := some (3, false) }) (v := ?_) rfl (by kernel_rfl) (by kernel_rfl) (by kernel_rfl) (fun _ _ _ h => h) (Or.inl ⟨by rfl, ?_⟩) (by assumption) ?_
      rotate_left
      · intro w hSw
        (try dsimp only at hSw)
        first | (go_simp; done) | (go_simp; with_reducible rfl)
      (try simp only [Act.put, List.setIfInBounds_toArray, List.set_cons_zero, List.set_cons_succ])
      refine wpAnyH_ready (rs := [5]) (by kernel_rfl) (by simp) ?_
      refine AllReadyH.cons (o := { dst := some 13, op := Op.call { callee := Callee.value (Operand.func 55), args := #[Operand.tmp 12], argTypes := #[23] }, type := 4, pos := "ref.go:33", after := #[{ on := 4, ground := Ground.data }, { on := 3, ground := Ground.chain }, { on := 3, ground := Ground.guard }], guard := some (3, false) }) rfl (fun K hK => ?_) AllReadyH.nil
      go_simp
      refine (KE.out _).mono ?_
      rintro e wx ⟨rfl, jx⟩
      replace nc := nc.trans (jx.mono nc.size)
      clear jx
      refine hK.out _ _ (CS.out _ nc) (fun hHeld => ?_)
      clear hK K
      (try simp only [Act.put, List.setIfInBounds_toArray, List.set_cons_zero, List.set_cons_succ])
      refine wpAnyH_take (i := 6) (oi := { dst := some 14, op := Op.unOp UnOp.not 4 (Operand.tmp 13), type := 4, pos := "ref.go:33", after := #[{ on := 5, ground := Ground.data }, { on := 3, ground := Ground.guard }], guard := some (3, false) }) (v := ?_) rfl (by kernel_rfl) (by kernel_rfl) (by kernel_rfl) (fun _ _ _ h => h) (Or.inl ⟨by rfl, ?_⟩) (by assumption) ?_
      rotate_left
      · intro w hSw
        (try dsimp only at hSw)
        first | (go_simp; done) | (go_simp; with_reducible rfl)
      (try simp only [Act.put, List.setIfInBounds_toArray, List.set_cons_zero, List.set_cons_succ])
      refine wpAnyH_take (i := 7) (oi := { dst := some 15, op := Op.pick (Operand.tmp 11) (Operand.const (Value.bool true)) (Operand.tmp 14), type := 4, pos := "ref.go:33", after := #[{ on := 3, ground := Ground.data }, { on := 6, ground := Ground.data }], guard := none }) (v := ?_) rfl (by kernel_rfl) (by kernel_rfl) (by kernel_rfl) (fun _ _ _ h => h) (Or.inl ⟨by rfl, ?_⟩) (by assumption) ?_
      rotate_left
      · intro w hSw
        (try dsimp only at hSw)
        first | (go_simp; done) | (go_simp; with_reducible rfl)
      (try simp only [Act.put, List.setIfInBounds_toArray, List.set_cons_zero, List.set_cons_succ])
      refine wpAnyH_take (i := 8) (oi := { dst := some 16, op := Op.move (Operand.tmp 15), type := 4, pos := "ref.go:33", after := #[{ on := 7, ground := Ground.data }, { on := 5, ground := Ground.chain }], guard := none }) (v := ?_) rfl (by kernel_rfl) (by kernel_rfl) (by kernel_rfl) (fun _ _ _ h => h) (Or.inl ⟨by rfl, ?_⟩) (by assumption) ?_
      rotate_left
      · intro w hSw
        (try dsimp only at hSw)
        first | (go_simp; done) | (go_simp; with_reducible rfl)
      (try simp only [Act.put, List.setIfInBounds_toArray, List.set_cons_zero, List.set_cons_succ])
      refine wpAnyH_take (i := 9) (oi := { dst := some 17, op := Op.move (Operand.tmp 1), type := 3, pos := "ref.go:33", after := #[{ on := 8, ground := Ground.guard }], guard := some (8, false) }) (v := ?_) rfl (by kernel_rfl) (by kernel_rfl) (by kernel_rfl) (fun _ _ _ h => h) (Or.inl ⟨by rfl, ?_⟩) (by assumption) ?_
      rotate_left
      · intro w hSw
        (try dsimp only at hSw)
        first | (go_simp; done) | (go_simp; with_reducible rfl)
      (try simp only [Act.put, List.setIfInBounds_toArray, List.set_cons_zero, List.set_cons_succ])
      refine wpAnyH_take (i := 10) (oi := { dst := some 18, op := Op.binOp BinOp.lss 3 (Operand.tmp 17) (Operand.const (Value.int IntKind.i64 0)) 3, type := 4, pos := "ref.go:33", after := #[{ on := 9, ground := Ground.data }, { on := 8, ground := Ground.guard }], guard := some (8, false) }) (v := ?_) rfl (by kernel_rfl) (by kernel_rfl) (by kernel_rfl) (fun _ _ _ h => h) (Or.inl ⟨by rfl, ?_⟩) (by assumption) ?_
      rotate_left
      · intro w hSw
        (try dsimp only at hSw)
        first | (go_simp; done) | (go_simp; with_reducible rfl)
      (try simp only [Act.put, List.setIfInBounds_toArray, List.set_cons_zero, List.set_cons_succ])
      refine wpAnyH_take (i := 11) (oi := { dst := some 19, op := Op.pick (Operand.tmp 16) (Operand.const (Value.bool true)) (Operand.tmp 18), type := 4, pos := "ref.go:33", after := #[{ on := 8, ground := Ground.data }, { on := 10, ground := Ground.data }], guard := none }) (v := ?_) rfl (by kernel_rfl) (by kernel_rfl) (by kernel_rfl) (fun _ _ _ h => h) (Or.inl ⟨by rfl, ?_⟩) (by assumption) ?_
      rotate_left
      · intro w hSw
        (try dsimp only at hSw)
        first | (go_simp; done) | (go_simp; with_reducible rfl)
      (try simp only [Act.put, List.setIfInBounds_toArray, List.set_cons_zero, List.set_cons_succ])
      refine wpAnyH_take (i := 12) (oi := { dst := some 20, op := Op.move (Operand.tmp 19), type := 4, pos := "ref.go:33", after := #[{ on := 11, ground := Ground.data }, { on := 8, ground := Ground.chain }], guard := none }) (v := ?_) rfl (by kernel_rfl) (by kernel_rfl) (by kernel_rfl) (fun _ _ _ h => h) (Or.inl ⟨by rfl, ?_⟩) (by assumption) ?_
      rotate_left
      · intro w hSw
        (try dsimp only at hSw)
        first | (go_simp; done) | (go_simp; with_reducible rfl)
      (try simp only [Act.put, List.setIfInBounds_toArray, List.set_cons_zero, List.set_cons_succ])
      refine wpAnyH_take (i := 13) (oi := { dst := some 21, op := Op.move (Operand.tmp 1), type := 3, pos := "ref.go:33", after := #[{ on := 12, ground := Ground.guard }], guard := some (12, false) }) (v := ?_) rfl (by kernel_rfl) (by kernel_rfl) (by kernel_rfl) (fun _ _ _ h => h) (Or.inl ⟨by rfl, ?_⟩) (by assumption) ?_
      rotate_left
      · intro w hSw
        (try dsimp only at hSw)
        first | (go_simp; done) | (go_simp; with_reducible rfl)
      (try simp only [Act.put, List.setIfInBounds_toArray, List.set_cons_zero, List.set_cons_succ])
      refine wpAnyH_take (i := 14) (oi := { dst := some 22, op := Op.binOp BinOp.geq 3 (Operand.tmp 21) (Operand.const (Value.int IntKind.i64 16)) 3, type := 4, pos := "ref.go:33", after := #[{ on := 13, ground := Ground.data }, { on := 12, ground := Ground.guard }], guard := some (12, false) }) (v := ?_) rfl (by kernel_rfl) (by kernel_rfl) (by kernel_rfl) (fun _ _ _ h => h) (Or.inl ⟨by rfl, ?_⟩) (by assumption) ?_
      rotate_left
      · intro w hSw
        (try dsimp only at hSw)
        first | (go_simp; done) | (go_simp; with_reducible rfl)
      (try simp only [Act.put, List.setIfInBounds_toArray, List.set_cons_zero, List.set_cons_succ])
      refine wpAnyH_take (i := 15) (oi := { dst := some 23, op := Op.pick (Operand.tmp 20) (Operand.const (Value.bool true)) (Operand.tmp 22), type := 4, pos := "ref.go:33", after := #[{ on := 12, ground := Ground.data }, { on := 14, ground := Ground.data }], guard := none }) (v := ?_) rfl (by kernel_rfl) (by kernel_rfl) (by kernel_rfl) (fun _ _ _ h => h) (Or.inl ⟨by rfl, ?_⟩) (by assumption) ?_
      rotate_left
      · intro w hSw
        (try dsimp only at hSw)
        first | (go_simp; done) | (go_simp; with_reducible rfl)
      (try simp only [Act.put, List.setIfInBounds_toArray, List.set_cons_zero, List.set_cons_succ])
      refine wpAnyH_take (i := 16) (oi := { dst := some 24, op := Op.move (Operand.tmp 23), type := 4, pos := "ref.go:33", after := #[{ on := 15, ground := Ground.data }, { on := 12, ground := Ground.chain }], guard := none }) (v := ?_) rfl (by kernel_rfl) (by kernel_rfl) (by kernel_rfl) (fun _ _ _ h => h) (Or.inl ⟨by rfl, ?_⟩) (by assumption) ?_
      rotate_left
      · intro w hSw
        (try dsimp only at hSw)
        first | (go_simp; done) | (go_simp; with_reducible rfl)
      (try simp only [Act.put, List.setIfInBounds_toArray, List.set_cons_zero, List.set_cons_succ])
      refine wpAnyH_take (i := 17) (oi := { dst := some 25, op := Op.fieldAddr 26 (Operand.tmp 3) 0, type := 0, pos := "ref.go:33", after := #[{ on := 16, ground := Ground.guard }], guard := some (16, false) }) (v := undef) rfl (by kernel_rfl) (by kernel_rfl) (by kernel_rfl) (fun _ _ _ h => h) (Or.inr ⟨by rfl, rfl⟩) (by assumption) ?_
      (try simp only [Act.put, List.setIfInBounds_toArray, List.set_cons_zero, List.set_cons_succ])
      refine wpAnyH_take (i := 18) (oi := { dst := some 26, op := Op.load 3 (Operand.tmp 25), type := 3, pos := "ref.go:33", after := #[{ on := 17, ground := Ground.data }, { on := 16, ground := Ground.guard }], guard := some (16, false) }) (v := undef) rfl (by kernel_rfl) (by kernel_rfl) (by kernel_rfl) (fun _ _ _ h => h) (Or.inr ⟨by rfl, rfl⟩) (by assumption) ?_
      (try simp only [Act.put, List.setIfInBounds_toArray, List.set_cons_zero, List.set_cons_succ])
      refine wpAnyH_take (i := 19) (oi := { dst := some 27, op := Op.binOp BinOp.eql 3 (Operand.tmp 26) (Operand.const (Value.int IntKind.i64 1099511627776)) 3, type := 4, pos := "ref.go:33", after := #[{ on := 18, ground := Ground.data }, { on := 16, ground := Ground.guard }], guard := some (16, false) }) (v := undef) rfl (by kernel_rfl) (by kernel_rfl) (by kernel_rfl) (fun _ _ _ h => h) (Or.inr ⟨by rfl, rfl⟩) (by assumption) ?_
      (try simp only [Act.put, List.setIfInBounds_toArray, List.set_cons_zero, List.set_cons_succ])
      refine wpAnyH_take (i := 20) (oi := { dst := some 28, op := Op.pick (Operand.tmp 24) (Operand.const (Value.bool true)) (Operand.tmp 27), type := 4, pos := "ref.go:33", after := #[{ on := 16, ground := Ground.data }, { on := 19, ground := Ground.data }], guard := none }) (v := ?_) rfl (by kernel_rfl) (by kernel_rfl) (by kernel_rfl) (fun _ _ _ h => h) (Or.inl ⟨by rfl, ?_⟩) (by assumption) ?_
      rotate_left
      · intro w hSw
        (try dsimp only at hSw)
        first | (go_simp; done) | (go_simp; with_reducible rfl)
      (try simp only [Act.put, List.setIfInBounds_toArray, List.set_cons_zero, List.set_cons_succ])
      refine wpAnyH_take (i := 21) (oi := { dst := some 29, op := Op.move (Operand.tmp 28), type := 4, pos := "ref.go:33", after := #[{ on := 20, ground := Ground.data }, { on := 16, ground := Ground.chain }], guard := none }) (v := ?_) rfl (by kernel_rfl) (by kernel_rfl) (by kernel_rfl) (fun _ _ _ h => h) (Or.inl ⟨by rfl, ?_⟩) (by assumption) ?_
      rotate_left
      · intro w hSw
        (try dsimp only at hSw)
        first | (go_simp; done) | (go_simp; with_reducible rfl)
      (try simp only [Act.put, List.setIfInBounds_toArray, List.set_cons_zero, List.set_cons_succ])
      refine wpAnyH_take (i := 22) (oi := { dst := some 30, op := Op.load 23 (Operand.tmp 5), type := 23, pos := "ref.go:33", after := #[{ on := 21, ground := Ground.guard }], guard := some (21, false) }) (v := undef) rfl (by kernel_rfl) (by kernel_rfl) (by kernel_rfl) (fun _ _ _ h => h) (Or.inr ⟨by rfl, rfl⟩) (by assumption) ?_
      (try simp only [Act.put, List.setIfInBounds_toArray, List.set_cons_zero, List.set_cons_succ])
      refine wpAnyH_take (i := 23) (oi := { dst := some 31, op := Op.move (Operand.tmp 1), type := 3, pos := "ref.go:33", after := #[{ on := 21, ground := Ground.guard }], guard := some (21, false) }) (v := undef) rfl (by kernel_rfl) (by kernel_rfl) (by kernel_rfl) (fun _ _ _ h => h) (Or.inr ⟨by rfl, rfl⟩) (by assumption) ?_
      (try simp only [Act.put, List.setIfInBounds_toArray, List.set_cons_zero, List.set_cons_succ])
      refine wpAnyH_take (i := 24) (oi := { dst := some 32, op := Op.fieldAddr 26 (Operand.tmp 3) 1, type := 0, pos := "ref.go:33", after := #[{ on := 21, ground := Ground.guard }], guard := some (21, false) }) (v := undef) rfl (by kernel_rfl) (by kernel_rfl) (by kernel_rfl) (fun _ _ _ h => h) (Or.inr ⟨by rfl, rfl⟩) (by assumption) ?_
      (try simp only [Act.put, List.setIfInBounds_toArray, List.set_cons_zero, List.set_cons_succ])
      refine wpAnyH_take (i := 25) (oi := { dst := some 33, op := Op.indexAddr 24 (Operand.tmp 32) (Operand.tmp 31), type := 0, pos := "ref.go:33", after := #[{ on := 24, ground := Ground.data }, { on := 23, ground := Ground.data }, { on := 21, ground := Ground.guard }], guard := some (21, false) }) (v := undef) rfl (by kernel_rfl) (by kernel_rfl) (by kernel_rfl) (fun _ _ _ h => h) (Or.inr ⟨by rfl, rfl⟩) (by assumption) ?_
      (try simp only [Act.put, List.setIfInBounds_toArray, List.set_cons_zero, List.set_cons_succ])
      refine wpAnyH_take (i := 26) (oi := { dst := some 34, op := Op.load 23 (Operand.tmp 33), type := 23, pos := "ref.go:33", after := #[{ on := 25, ground := Ground.data }, { on := 21, ground := Ground.guard }], guard := some (21, false) }) (v := undef) rfl (by kernel_rfl) (by kernel_rfl) (by kernel_rfl) (fun _ _ _ h => h) (Or.inr ⟨by rfl, rfl⟩) (by assumption) ?_
      (try simp only [Act.put, List.setIfInBounds_toArray, List.set_cons_zero, List.set_cons_succ])
      refine wpAnyH_take (i := 27) (oi := { dst := some 35, op := Op.call { callee := Callee.value (Operand.func 78), args := #[Operand.tmp 30, Operand.tmp 34], argTypes := #[23, 23] }, type := 4, pos := "ref.go:33", after := #[{ on := 22, ground := Ground.data }, { on := 26, ground := Ground.data }, { on := 21, ground := Ground.chain }, { on := 21, ground := Ground.guard }], guard := some (21, false) }) (v := undef) rfl (by kernel_rfl) (by kernel_rfl) (by kernel_rfl) (fun _ _ _ h => h) (Or.inr ⟨by rfl, rfl⟩) (by assumption) ?_
      (try simp only [Act.put, List.setIfInBounds_toArray, List.set_cons_zero, List.set_cons_succ])
      refine wpAnyH_take (i := 28) (oi := { dst := some 36, op := Op.unOp UnOp.not 4 (Operand.tmp 35), type := 4, pos := "ref.go:33", after := #[{ on := 27, ground := Ground.data }, { on := 21, ground := Ground.guard }], guard := some (21, false) }) (v := undef) rfl (by kernel_rfl) (by kernel_rfl) (by kernel_rfl) (fun _ _ _ h => h) (Or.inr ⟨by rfl, rfl⟩) (by assumption) ?_
      (try simp only [Act.put, List.setIfInBounds_toArray, List.set_cons_zero, List.set_cons_succ])
      refine wpAnyH_take (i := 29) (oi := { dst := some 37, op := Op.pick (Operand.tmp 29) (Operand.const (Value.bool true)) (Operand.tmp 36), type := 4, pos := "ref.go:33", after := #[{ on := 21, ground := Ground.data }, { on := 28, ground := Ground.data }], guard := none }) (v := ?_) rfl (by kernel_rfl) (by kernel_rfl) (by kernel_rfl) (fun _ _ _ h => h) (Or.inl ⟨by rfl, ?_⟩) (by assumption) ?_
      rotate_left
      · intro w hSw
        (try dsimp only at hSw)
        first | (go_simp; done) | (go_simp; with_reducible rfl)
      (try simp only [Act.put, List.setIfInBounds_toArray, List.set_cons_zero, List.set_cons_succ])
      refine wpAnyH_done (by kernel_rfl) ?_ _
      go_wp2_with fail
      go_meet
      exact ⟨by rw [HO.out]; rfl, nc⟩
  case rest =>
    obtain ⟨hcv, nd⟩ := hcut
    obtain ⟨ok, hok⟩ : ∃ ok, setOk T b (ec, ep, eg, et) = ok := ⟨_, rfl⟩
    rw [hok] at hcv
    subst hcv
    clear h0 h1 x0 x1 x2 x3 x4 x5 nc CE n0 bT
    obtain ⟨bR, L4, bT, bE⟩ := fin.out _ nd
    have hok2 : ok = false := by rw [← hok]; exact HF
    subst hok2
    · have HNO := Lib.hid hok
      simp only [Bool.not_false]
      have s0 := st_tab bR zeroT
      have HS := Lib.hid (nb_full bR zeroT)
      have HBX := Lib.hid (below_setCells (w.heap.size + 2) (by omega) (numL 65 zeroT) 0 w _ L4)
      have HV := Lib.hid (show setV T b (ec, ep, eg, et) = zeroT by unfold setV; rw [HNO.out]; rfl)
      have HN := Lib.hid (show setN T b (ec, ep, eg, et) = 2 by unfold setN; rw [HNO.out]; rfl)
      clear bT bE bR L4 hok nd
      go_wp2
      exact bodyPost_ret (results_agg_tmp rfl _ _ (w.heap.size + 2) _ _ (0, 0) _ rfl HS.out Try.undT rfl (by rw [List.size_toArray, numL_len]; exact Try.sizT)) rfl ⟨by rw [HV.out, HN.out]; rfl, HBX.out⟩
end Go.Proofs.Ythgoopdekllanaa

/- A row set: the document's. -/
namespace Go.Proofs.Ythgoopdekllanaa
open Go.RowKit Go.Shelf
open SumM

attribute [local go_sem] Oper.semAt_some build_tab guard_undef
attribute [local go_sem ↓] zero_tab
attribute [local go_sem ↓] nm_ldT nm_ldA nm_stT

set_option maxRecDepth 100000 in
set_option maxHeartbeats 8000000 in
theorem r10Set_w5 (T : Nat → Int) (b : Int) (ec ep eg et : Int) (HF : setOk T b (ec, ep, eg, et) = false) (H : rgT T = true) (H' : rgt ec ep eg et = true) (h0 : ¬ b < 0) (h1 : ¬ 16 ≤ b) (hv : (T 0 == 1099511627776) = true) (w : World) : Calls Try.prog 61 #[tabV T, .int .i64 b, .agg #[.int .i64 ec, .int .i64 ep, .int .i64 eg, .int .i64 et]] w fun e w' => e = .returned (.tuple #[tabV (setV T b (ec, ep, eg, et)), .int .i64 (setN T b (ec, ep, eg, et))]) ∧ Below w.heap.size w w' := by
  have bT := heap_alloc_new w (.cells (numL 65 T).toArray 26)
  have LT := (Below.refl w.heap.size w).alloc (Nat.le_refl _) (.cells (numL 65 T).toArray 26)
  have hs1 : (w.alloc (.cells (numL 65 T).toArray 26)).heap.size = w.heap.size + 1 := by simp
  go_enter Try.func61, Try.ntmps61
  go_upto_region 1 with (fail)
  generalize w.alloc (.cells (numL 65 T).toArray 26) = Wa at *
  have bE := heap_alloc_new Wa (.cells #[.int .i64 ec, .int .i64 ep, .int .i64 eg, .int .i64 et] 23)
  have bT := (Below.heap_alloc Wa (.cells #[.int .i64 ec, .int .i64 ep, .int .i64 eg, .int .i64 et] 23) _ (by omega)).trans bT
  have LE := LT.alloc LT.size (.cells #[.int .i64 ec, .int .i64 ep, .int .i64 eg, .int .i64 et] 23)
  have hs2 : (Wa.alloc (.cells #[.int .i64 ec, .int .i64 ep, .int .i64 eg, .int .i64 et] 23)).heap.size = w.heap.size + 2 := by simp; omega
  rw [hs1] at bE
  generalize Wa.alloc (.cells #[.int .i64 ec, .int .i64 ep, .int .i64 eg, .int .i64 et] 23) = Wb at *
  have bR := heap_alloc_new Wb (.cells (numL 65 zeroT).toArray 26)
  have bT := (Below.heap_alloc Wb (.cells (numL 65 zeroT).toArray 26) _ (by omega)).trans bT
  have bE := (Below.heap_alloc Wb (.cells (numL 65 zeroT).toArray 26) _ (by omega)).trans bE
  have L0 := LE.alloc LE.size (.cells (numL 65 zeroT).toArray 26)
  rw [hs2] at bR
  generalize Wb.alloc (.cells (numL 65 zeroT).toArray 26) = W0 at *
  clear LT LE hs1 hs2
  have fin : Hid (∀ W2 : World, Below W0.heap.size W0 W2 → NB (w.heap.size + 2) 26 65 zeroT W2 ∧ Below w.heap.size w W2 ∧ NB w.heap.size 26 65 T W2 ∧ W2.heap[w.heap.size + 1]? = some (.cells #[.int .i64 ec, .int .i64 ep, .int .i64 eg, .int .i64 et] 23 (0, 0))) := Lib.hid fun W2 m => ⟨bb bR m, L0.trans (m.mono L0.size), bb bT m, bb bE m⟩
  have n0 := (Below.refl W0.heap.size W0).drew
  have CE := Lib.hid (fun W (m : Below W0.heap.size W0 W) => show (ldS 26 (.pointer (some ⟨w.heap.size, 0, none⟩))).run Try.prog W = .ok (tabV T) W ∧ W.cell? ⟨w.heap.size + 1, 0, none⟩ = some (.int .i64 ec) ∧ W.cell? ⟨w.heap.size + 1, 1, none⟩ = some (.int .i64 ep) ∧ W.cell? ⟨w.heap.size + 1, 2, none⟩ = some (.int .i64 eg) ∧ W.cell? ⟨w.heap.size + 1, 3, none⟩ = some (.int .i64 et) ∧ W.cell? ⟨w.heap.size, 0, none⟩ = some (.int .i64 (T 0)) from
    ⟨ld_tab (bb bT m), (ent_cells _ _ _ _ (bb bE m)).1, (ent_cells _ _ _ _ (bb bE m)).2.1, (ent_cells _ _ _ _ (bb bE m)).2.2.1, (ent_cells _ _ _ _ (bb bE m)).2.2.2, nb_cell (bb bT m) (by omega)⟩)
  have HT := Lib.hid bT
  have nc := n0
  obtain ⟨x0, x1, x2, x3, x4, x5⟩ := CE.out _ nc
  clear bE bR L0
  go_cut [37] (fun v wx => v = .bool (!(setOk T b (ec, ep, eg, et))) ∧ Below W0.heap.size W0 wx)
  case first =>
    obtain ⟨r, hr⟩ : ∃ r, rgT T = r := ⟨_, rfl⟩
    obtain ⟨r', hr'⟩ : ∃ r', rgt ec ep eg et = r' := ⟨_, rfl⟩
    obtain ⟨r2, hr2⟩ : ∃ r2, decide ((rowT T b.toNat).2.2.1 < eg) = r2 := ⟨_, rfl⟩
    have KR := Lib.hid (fun W => hr ▸ r10Right_any T W)
    have KE := Lib.hid (fun W => hr' ▸ r9Right_any ec ep eg et W)
    have KN := Lib.hid (fun W => hr2 ▸ r9Newer_any ec ep eg et (rowT T b.toNat).1 (rowT T b.toNat).2.1 (rowT T b.toNat).2.2.1 (rowT T b.toNat).2.2.2 W)
    have HO : setOk T b (ec, ep, eg, et) = (r && r' && decide (0 ≤ b) && decide (b < 16) && !(T 0 == 1099511627776) && r2) := by
      unfold setOk
      rw [← hr, ← hr', ← hr2]
      rfl
    obtain rfl : r = true := by rw [← hr]; exact H
    obtain rfl : r' = true := by rw [← hr']; exact H'
    clear hr hr' hr2 bT H H'
    rw [show decide (0 ≤ b) = true by simpa using h0] at HO
    have e0 : decide (b < 0) = false := by simpa using h0
    rw [show decide (b < 16) = true by simpa using h1] at HO
    have e1 : decide (16 ≤ b) = false := by simpa using h1
    obtain ⟨k, rfl⟩ : ∃ k : Nat, b = (k : Int) := ⟨b.toNat, by omega⟩
    have hk : k < 16 := by omega
    have hk1 : (k : Int) < 16 := by omega
    obtain ⟨t, ht⟩ : ∃ t, (T 0 == 1099511627776) = t := ⟨_, rfl⟩
    rw [ht] at HO
    obtain rfl : t = true := by rw [← ht]; exact hv
    clear h0 h1 hv
    · skip
      have HO := Lib.hid (show setOk T (k : Int) (ec, ep, eg, et) = false by rw [HO]; rfl)
      clear KN
      have CS := Lib.hid (fun W (m : Below W0.heap.size W0 W) => show (ldS 26 (.pointer (some ⟨w.heap.size, 0, none⟩))).run Try.prog W = .ok (tabV T) W ∧ W.cell? ⟨w.heap.size + 1, 0, none⟩ = some (.int .i64 ec) ∧ W.cell? ⟨w.heap.size + 1, 1, none⟩ = some (.int .i64 ep) ∧ W.cell? ⟨w.heap.size + 1, 2, none⟩ = some (.int .i64 eg) ∧ W.cell? ⟨w.heap.size + 1, 3, none⟩ = some (.int .i64 et) ∧ W.cell? ⟨w.heap.size, 0, none⟩ = some (.int .i64 (T 0)) from CE.out W m)
      clear x0 x1 x2 x3 x4 x5
      refine wp_region_held_drew (S := fun W => (ldS 26 (.pointer (some ⟨w.heap.size, 0, none⟩))).run Try.prog W = .ok (tabV T) W ∧ W.cell? ⟨w.heap.size + 1, 0, none⟩ = some (.int .i64 ec) ∧ W.cell? ⟨w.heap.size + 1, 1, none⟩ = some (.int .i64 ep) ∧ W.cell? ⟨w.heap.size + 1, 2, none⟩ = some (.int .i64 eg) ∧ W.cell? ⟨w.heap.size + 1, 3, none⟩ = some (.int .i64 et) ∧ W.cell? ⟨w.heap.size, 0, none⟩ = some (.int .i64 (T 0))) (by kernel_rfl) (CS.out _ nc) (fun hHeld => ?_)
      refine wpAnyH_take (i := 0) (oi := { dst := some 8, op := Op.load 26 (Operand.tmp 3), type := 26, pos := "ref.go:33", after := #[], guard := none }) (v := ?_) rfl (by kernel_rfl) (by kernel_rfl) (by kernel_rfl) (fun _ _ _ h => h) (Or.inl ⟨by rfl, ?_⟩) (by assumption) ?_
      rotate_left
      · intro w hSw
        (try dsimp only at hSw)
        first | (go_simp; done) | (go_simp; with_reducible rfl)
      (try simp only [Act.put, List.setIfInBounds_toArray, List.set_cons_zero, List.set_cons_succ])
      refine wpAnyH_ready (rs := [1]) (by kernel_rfl) (by simp) ?_
      refine AllReadyH.cons (o := { dst := some 9, op := Op.call { callee := Callee.value (Operand.func 45), args := #[Operand.tmp 8], argTypes := #[26] }, type := 4, pos := "ref.go:33", after := #[{ on := 0, ground := Ground.data }], guard := none }) rfl (fun K hK => ?_) AllReadyH.nil
      go_simp
      refine (KR.out _).mono ?_
      rintro e wx ⟨rfl, jx⟩
      replace nc := nc.trans (jx.mono nc.size)
      clear jx
      refine hK.out _ _ (CS.out _ nc) (fun hHeld => ?_)
      clear hK K
      (try simp only [Act.put, List.setIfInBounds_toArray, List.set_cons_zero, List.set_cons_succ])
      refine wpAnyH_take (i := 2) (oi := { dst := some 10, op := Op.unOp UnOp.not 4 (Operand.tmp 9), type := 4, pos := "ref.go:33", after := #[{ on := 1, ground := Ground.data }], guard := none }) (v := ?_) rfl (by kernel_rfl) (by kernel_rfl) (by kernel_rfl) (fun _ _ _ h => h) (Or.inl ⟨by rfl, ?_⟩) (by assumption) ?_
      rotate_left
      · intro w hSw
        (try dsimp only at hSw)
        first | (go_simp; done) | (go_simp; with_reducible rfl)
      (try simp only [Act.put, List.setIfInBounds_toArray, List.set_cons_zero, List.set_cons_succ])
      refine wpAnyH_take (i := 3) (oi := { dst := some 11, op := Op.move (Operand.tmp 10), type := 4, pos := "ref.go:33", after := #[{ on := 2, ground := Ground.data }, { on := 1, ground := Ground.chain }], guard := none }) (v := ?_) rfl (by kernel_rfl) (by kernel_rfl) (by kernel_rfl) (fun _ _ _ h => h) (Or.inl ⟨by rfl, ?_⟩) (by assumption) ?_
      rotate_left
      · intro w hSw
        (try dsimp only at hSw)
        first | (go_simp; done) | (go_simp; with_reducible rfl)
      (try simp only [Act.put, List.setIfInBounds_toArray, List.set_cons_zero, List.set_cons_succ])
      refine wpAnyH_take (i := 4) (oi := { dst := some 12, op := Op.load 23 (Operand.tmp 5), type := 23, pos := "ref.go:33", after := #[{ on := 3, ground := Ground.guard }], guard := some (3, false) }) (v := ?_) rfl (by kernel_rfl) (by kernel_rfl) (by kernel_rfl) (fun _ _ _ h => h) (Or.inl ⟨by rfl, ?_⟩) (by assumption) ?_
      rotate_left
      · intro w hSw
        (try dsimp only at hSw)
        first | (go_simp; done) | (go_simp; with_reducible rfl)
      (try simp only [Act.put, List.setIfInBounds_toArray, List.set_cons_zero, List.set_cons_succ])
      refine wpAnyH_ready (rs := [5]) (by kernel_rfl) (by simp) ?_
      refine AllReadyH.cons (o := { dst := some 13, op := Op.call { callee := Callee.value (Operand.func 55), args := #[Operand.tmp 12], argTypes := #[23] }, type := 4, pos := "ref.go:33", after := #[{ on := 4, ground := Ground.data }, { on := 3, ground := Ground.chain }, { on := 3, ground := Ground.guard }], guard := some (3, false) }) rfl (fun K hK => ?_) AllReadyH.nil
      go_simp
      refine (KE.out _).mono ?_
      rintro e wx ⟨rfl, jx⟩
      replace nc := nc.trans (jx.mono nc.size)
      clear jx
      refine hK.out _ _ (CS.out _ nc) (fun hHeld => ?_)
      clear hK K
      (try simp only [Act.put, List.setIfInBounds_toArray, List.set_cons_zero, List.set_cons_succ])
      refine wpAnyH_take (i := 6) (oi := { dst := some 14, op := Op.unOp UnOp.not 4 (Operand.tmp 13), type := 4, pos := "ref.go:33", after := #[{ on := 5, ground := Ground.data }, { on := 3, ground := Ground.guard }], guard := some (3, false) }) (v := ?_) rfl (by kernel_rfl) (by kernel_rfl) (by kernel_rfl) (fun _ _ _ h => h) (Or.inl ⟨by rfl, ?_⟩) (by assumption) ?_
      rotate_left
      · intro w hSw
        (try dsimp only at hSw)
        first | (go_simp; done) | (go_simp; with_reducible rfl)
      (try simp only [Act.put, List.setIfInBounds_toArray, List.set_cons_zero, List.set_cons_succ])
      refine wpAnyH_take (i := 7) (oi := { dst := some 15, op := Op.pick (Operand.tmp 11) (Operand.const (Value.bool true)) (Operand.tmp 14), type := 4, pos := "ref.go:33", after := #[{ on := 3, ground := Ground.data }, { on := 6, ground := Ground.data }], guard := none }) (v := ?_) rfl (by kernel_rfl) (by kernel_rfl) (by kernel_rfl) (fun _ _ _ h => h) (Or.inl ⟨by rfl, ?_⟩) (by assumption) ?_
      rotate_left
      · intro w hSw
        (try dsimp only at hSw)
        first | (go_simp; done) | (go_simp; with_reducible rfl)
      (try simp only [Act.put, List.setIfInBounds_toArray, List.set_cons_zero, List.set_cons_succ])
      refine wpAnyH_take (i := 8) (oi := { dst := some 16, op := Op.move (Operand.tmp 15), type := 4, pos := "ref.go:33", after := #[{ on := 7, ground := Ground.data }, { on := 5, ground := Ground.chain }], guard := none }) (v := ?_) rfl (by kernel_rfl) (by kernel_rfl) (by kernel_rfl) (fun _ _ _ h => h) (Or.inl ⟨by rfl, ?_⟩) (by assumption) ?_
      rotate_left
      · intro w hSw
        (try dsimp only at hSw)
        first | (go_simp; done) | (go_simp; with_reducible rfl)
      (try simp only [Act.put, List.setIfInBounds_toArray, List.set_cons_zero, List.set_cons_succ])
      refine wpAnyH_take (i := 9) (oi := { dst := some 17, op := Op.move (Operand.tmp 1), type := 3, pos := "ref.go:33", after := #[{ on := 8, ground := Ground.guard }], guard := some (8, false) }) (v := ?_) rfl (by kernel_rfl) (by kernel_rfl) (by kernel_rfl) (fun _ _ _ h => h) (Or.inl ⟨by rfl, ?_⟩) (by assumption) ?_
      rotate_left
      · intro w hSw
        (try dsimp only at hSw)
        first | (go_simp; done) | (go_simp; with_reducible rfl)
      (try simp only [Act.put, List.setIfInBounds_toArray, List.set_cons_zero, List.set_cons_succ])
      refine wpAnyH_take (i := 10) (oi := { dst := some 18, op := Op.binOp BinOp.lss 3 (Operand.tmp 17) (Operand.const (Value.int IntKind.i64 0)) 3, type := 4, pos := "ref.go:33", after := #[{ on := 9, ground := Ground.data }, { on := 8, ground := Ground.guard }], guard := some (8, false) }) (v := ?_) rfl (by kernel_rfl) (by kernel_rfl) (by kernel_rfl) (fun _ _ _ h => h) (Or.inl ⟨by rfl, ?_⟩) (by assumption) ?_
      rotate_left
      · intro w hSw
        (try dsimp only at hSw)
        first | (go_simp; done) | (go_simp; with_reducible rfl)
      (try simp only [Act.put, List.setIfInBounds_toArray, List.set_cons_zero, List.set_cons_succ])
      refine wpAnyH_take (i := 11) (oi := { dst := some 19, op := Op.pick (Operand.tmp 16) (Operand.const (Value.bool true)) (Operand.tmp 18), type := 4, pos := "ref.go:33", after := #[{ on := 8, ground := Ground.data }, { on := 10, ground := Ground.data }], guard := none }) (v := ?_) rfl (by kernel_rfl) (by kernel_rfl) (by kernel_rfl) (fun _ _ _ h => h) (Or.inl ⟨by rfl, ?_⟩) (by assumption) ?_
      rotate_left
      · intro w hSw
        (try dsimp only at hSw)
        first | (go_simp; done) | (go_simp; with_reducible rfl)
      (try simp only [Act.put, List.setIfInBounds_toArray, List.set_cons_zero, List.set_cons_succ])
      refine wpAnyH_take (i := 12) (oi := { dst := some 20, op := Op.move (Operand.tmp 19), type := 4, pos := "ref.go:33", after := #[{ on := 11, ground := Ground.data }, { on := 8, ground := Ground.chain }], guard := none }) (v := ?_) rfl (by kernel_rfl) (by kernel_rfl) (by kernel_rfl) (fun _ _ _ h => h) (Or.inl ⟨by rfl, ?_⟩) (by assumption) ?_
      rotate_left
      · intro w hSw
        (try dsimp only at hSw)
        first | (go_simp; done) | (go_simp; with_reducible rfl)
      (try simp only [Act.put, List.setIfInBounds_toArray, List.set_cons_zero, List.set_cons_succ])
      refine wpAnyH_take (i := 13) (oi := { dst := some 21, op := Op.move (Operand.tmp 1), type := 3, pos := "ref.go:33", after := #[{ on := 12, ground := Ground.guard }], guard := some (12, false) }) (v := ?_) rfl (by kernel_rfl) (by kernel_rfl) (by kernel_rfl) (fun _ _ _ h => h) (Or.inl ⟨by rfl, ?_⟩) (by assumption) ?_
      rotate_left
      · intro w hSw
        (try dsimp only at hSw)
        first | (go_simp; done) | (go_simp; with_reducible rfl)
      (try simp only [Act.put, List.setIfInBounds_toArray, List.set_cons_zero, List.set_cons_succ])
      refine wpAnyH_take (i := 14) (oi := { dst := some 22, op := Op.binOp BinOp.geq 3 (Operand.tmp 21) (Operand.const (Value.int IntKind.i64 16)) 3, type := 4, pos := "ref.go:33", after := #[{ on := 13, ground := Ground.data }, { on := 12, ground := Ground.guard }], guard := some (12, false) }) (v := ?_) rfl (by kernel_rfl) (by kernel_rfl) (by kernel_rfl) (fun _ _ _ h => h) (Or.inl ⟨by rfl, ?_⟩) (by assumption) ?_
      rotate_left
      · intro w hSw
        (try dsimp only at hSw)
        first | (go_simp; done) | (go_simp; with_reducible rfl)
      (try simp only [Act.put, List.setIfInBounds_toArray, List.set_cons_zero, List.set_cons_succ])
      refine wpAnyH_take (i := 15) (oi := { dst := some 23, op := Op.pick (Operand.tmp 20) (Operand.const (Value.bool true)) (Operand.tmp 22), type := 4, pos := "ref.go:33", after := #[{ on := 12, ground := Ground.data }, { on := 14, ground := Ground.data }], guard := none }) (v := ?_) rfl (by kernel_rfl) (by kernel_rfl) (by kernel_rfl) (fun _ _ _ h => h) (Or.inl ⟨by rfl, ?_⟩) (by assumption) ?_
      rotate_left
      · intro w hSw
        (try dsimp only at hSw)
        first | (go_simp; done) | (go_simp; with_reducible rfl)
      (try simp only [Act.put, List.setIfInBounds_toArray, List.set_cons_zero, List.set_cons_succ])
      refine wpAnyH_take (i := 16) (oi := { dst := some 24, op := Op.move (Operand.tmp 23), type := 4, pos := "ref.go:33", after := #[{ on := 15, ground := Ground.data }, { on := 12, ground := Ground.chain }], guard := none }) (v := ?_) rfl (by kernel_rfl) (by kernel_rfl) (by kernel_rfl) (fun _ _ _ h => h) (Or.inl ⟨by rfl, ?_⟩) (by assumption) ?_
      rotate_left
      · intro w hSw
        (try dsimp only at hSw)
        first | (go_simp; done) | (go_simp; with_reducible rfl)
      (try simp only [Act.put, List.setIfInBounds_toArray, List.set_cons_zero, List.set_cons_succ])
      refine wpAnyH_take (i := 17) (oi := { dst := some 25, op := Op.fieldAddr 26 (Operand.tmp 3) 0, type := 0, pos := "ref.go:33", after := #[{ on := 16, ground := Ground.guard }], guard := some (16, false) }) (v := ?_) rfl (by kernel_rfl) (by kernel_rfl) (by kernel_rfl) (fun _ _ _ h => h) (Or.inl ⟨by rfl, ?_⟩) (by assumption) ?_
      rotate_left
      · intro w hSw
        (try dsimp only at hSw)
        first | (go_simp; done) | (go_simp; with_reducible rfl)
      (try simp only [Act.put, List.setIfInBounds_toArray, List.set_cons_zero, List.set_cons_succ])
      refine wpAnyH_take (i := 18) (oi := { dst := some 26, op := Op.load 3 (Operand.tmp 25), type := 3, pos := "ref.go:33", after := #[{ on := 17, ground := Ground.data }, { on := 16, ground := Ground.guard }], guard := some (16, false) }) (v := ?_) rfl (by kernel_rfl) (by kernel_rfl) (by kernel_rfl) (fun _ _ _ h => h) (Or.inl ⟨by rfl, ?_⟩) (by assumption) ?_
      rotate_left
      · intro w hSw
        (try dsimp only at hSw)
        first | (go_simp; done) | (go_simp; with_reducible rfl)
      (try simp only [Act.put, List.setIfInBounds_toArray, List.set_cons_zero, List.set_cons_succ])
      refine wpAnyH_take (i := 19) (oi := { dst := some 27, op := Op.binOp BinOp.eql 3 (Operand.tmp 26) (Operand.const (Value.int IntKind.i64 1099511627776)) 3, type := 4, pos := "ref.go:33", after := #[{ on := 18, ground := Ground.data }, { on := 16, ground := Ground.guard }], guard := some (16, false) }) (v := ?_) rfl (by kernel_rfl) (by kernel_rfl) (by kernel_rfl) (fun _ _ _ h => h) (Or.inl ⟨by rfl, ?_⟩) (by assumption) ?_
      rotate_left
      · intro w hSw
        (try dsimp only at hSw)
        first | (go_simp; done) | (go_simp; with_reducible rfl)
      (try simp only [Act.put, List.setIfInBounds_toArray, List.set_cons_zero, List.set_cons_succ])
      refine wpAnyH_take (i := 20) (oi := { dst := some 28, op := Op.pick (Operand.tmp 24) (Operand.const (Value.bool true)) (Operand.tmp 27), type := 4, pos := "ref.go:33", after := #[{ on := 16, ground := Ground.data }, { on := 19, ground := Ground.data }], guard := none }) (v := ?_) rfl (by kernel_rfl) (by kernel_rfl) (by kernel_rfl) (fun _ _ _ h => h) (Or.inl ⟨by rfl, ?_⟩) (by assumption) ?_
      rotate_left
      · intro w hSw
        (try dsimp only at hSw)
        first | (go_simp; done) | (go_simp; with_reducible rfl)
      (try simp only [Act.put, List.setIfInBounds_toArray, List.set_cons_zero, List.set_cons_succ])
      refine wpAnyH_take (i := 21) (oi := { dst := some 29, op := Op.move (Operand.tmp 28), type := 4, pos := "ref.go:33", after := #[{ on := 20, ground := Ground.data }, { on := 16, ground := Ground.chain }], guard := none }) (v := ?_) rfl (by kernel_rfl) (by kernel_rfl) (by kernel_rfl) (fun _ _ _ h => h) (Or.inl ⟨by rfl, ?_⟩) (by assumption) ?_
      rotate_left
      · intro w hSw
        (try dsimp only at hSw)
        first | (go_simp; done) | (go_simp; with_reducible rfl)
      (try simp only [Act.put, List.setIfInBounds_toArray, List.set_cons_zero, List.set_cons_succ])
      refine wpAnyH_take (i := 22) (oi := { dst := some 30, op := Op.load 23 (Operand.tmp 5), type := 23, pos := "ref.go:33", after := #[{ on := 21, ground := Ground.guard }], guard := some (21, false) }) (v := undef) rfl (by kernel_rfl) (by kernel_rfl) (by kernel_rfl) (fun _ _ _ h => h) (Or.inr ⟨by rfl, rfl⟩) (by assumption) ?_
      (try simp only [Act.put, List.setIfInBounds_toArray, List.set_cons_zero, List.set_cons_succ])
      refine wpAnyH_take (i := 23) (oi := { dst := some 31, op := Op.move (Operand.tmp 1), type := 3, pos := "ref.go:33", after := #[{ on := 21, ground := Ground.guard }], guard := some (21, false) }) (v := undef) rfl (by kernel_rfl) (by kernel_rfl) (by kernel_rfl) (fun _ _ _ h => h) (Or.inr ⟨by rfl, rfl⟩) (by assumption) ?_
      (try simp only [Act.put, List.setIfInBounds_toArray, List.set_cons_zero, List.set_cons_succ])
      refine wpAnyH_take (i := 24) (oi := { dst := some 32, op := Op.fieldAddr 26 (Operand.tmp 3) 1, type := 0, pos := "ref.go:33", after := #[{ on := 21, ground := Ground.guard }], guard := some (21, false) }) (v := undef) rfl (by kernel_rfl) (by kernel_rfl) (by kernel_rfl) (fun _ _ _ h => h) (Or.inr ⟨by rfl, rfl⟩) (by assumption) ?_
      (try simp only [Act.put, List.setIfInBounds_toArray, List.set_cons_zero, List.set_cons_succ])
      refine wpAnyH_take (i := 25) (oi := { dst := some 33, op := Op.indexAddr 24 (Operand.tmp 32) (Operand.tmp 31), type := 0, pos := "ref.go:33", after := #[{ on := 24, ground := Ground.data }, { on := 23, ground := Ground.data }, { on := 21, ground := Ground.guard }], guard := some (21, false) }) (v := undef) rfl (by kernel_rfl) (by kernel_rfl) (by kernel_rfl) (fun _ _ _ h => h) (Or.inr ⟨by rfl, rfl⟩) (by assumption) ?_
      (try simp only [Act.put, List.setIfInBounds_toArray, List.set_cons_zero, List.set_cons_succ])
      refine wpAnyH_take (i := 26) (oi := { dst := some 34, op := Op.load 23 (Operand.tmp 33), type := 23, pos := "ref.go:33", after := #[{ on := 25, ground := Ground.data }, { on := 21, ground := Ground.guard }], guard := some (21, false) }) (v := undef) rfl (by kernel_rfl) (by kernel_rfl) (by kernel_rfl) (fun _ _ _ h => h) (Or.inr ⟨by rfl, rfl⟩) (by assumption) ?_
      (try simp only [Act.put, List.setIfInBounds_toArray, List.set_cons_zero, List.set_cons_succ])
      refine wpAnyH_take (i := 27) (oi := { dst := some 35, op := Op.call { callee := Callee.value (Operand.func 78), args := #[Operand.tmp 30, Operand.tmp 34], argTypes := #[23, 23] }, type := 4, pos := "ref.go:33", after := #[{ on := 22, ground := Ground.data }, { on := 26, ground := Ground.data }, { on := 21, ground := Ground.chain }, { on := 21, ground := Ground.guard }], guard := some (21, false) }) (v := undef) rfl (by kernel_rfl) (by kernel_rfl) (by kernel_rfl) (fun _ _ _ h => h) (Or.inr ⟨by rfl, rfl⟩) (by assumption) ?_
      (try simp only [Act.put, List.setIfInBounds_toArray, List.set_cons_zero, List.set_cons_succ])
      refine wpAnyH_take (i := 28) (oi := { dst := some 36, op := Op.unOp UnOp.not 4 (Operand.tmp 35), type := 4, pos := "ref.go:33", after := #[{ on := 27, ground := Ground.data }, { on := 21, ground := Ground.guard }], guard := some (21, false) }) (v := undef) rfl (by kernel_rfl) (by kernel_rfl) (by kernel_rfl) (fun _ _ _ h => h) (Or.inr ⟨by rfl, rfl⟩) (by assumption) ?_
      (try simp only [Act.put, List.setIfInBounds_toArray, List.set_cons_zero, List.set_cons_succ])
      refine wpAnyH_take (i := 29) (oi := { dst := some 37, op := Op.pick (Operand.tmp 29) (Operand.const (Value.bool true)) (Operand.tmp 36), type := 4, pos := "ref.go:33", after := #[{ on := 21, ground := Ground.data }, { on := 28, ground := Ground.data }], guard := none }) (v := ?_) rfl (by kernel_rfl) (by kernel_rfl) (by kernel_rfl) (fun _ _ _ h => h) (Or.inl ⟨by rfl, ?_⟩) (by assumption) ?_
      rotate_left
      · intro w hSw
        (try dsimp only at hSw)
        first | (go_simp; done) | (go_simp; with_reducible rfl)
      (try simp only [Act.put, List.setIfInBounds_toArray, List.set_cons_zero, List.set_cons_succ])
      refine wpAnyH_done (by kernel_rfl) ?_ _
      go_wp2_with fail
      go_meet
      exact ⟨by rw [HO.out]; rfl, nc⟩
  case rest =>
    obtain ⟨hcv, nd⟩ := hcut
    obtain ⟨ok, hok⟩ : ∃ ok, setOk T b (ec, ep, eg, et) = ok := ⟨_, rfl⟩
    rw [hok] at hcv
    subst hcv
    clear h0 h1 hv x0 x1 x2 x3 x4 x5 nc CE n0 bT
    obtain ⟨bR, L4, bT, bE⟩ := fin.out _ nd
    have hok2 : ok = false := by rw [← hok]; exact HF
    subst hok2
    · have HNO := Lib.hid hok
      simp only [Bool.not_false]
      have s0 := st_tab bR zeroT
      have HS := Lib.hid (nb_full bR zeroT)
      have HBX := Lib.hid (below_setCells (w.heap.size + 2) (by omega) (numL 65 zeroT) 0 w _ L4)
      have HV := Lib.hid (show setV T b (ec, ep, eg, et) = zeroT by unfold setV; rw [HNO.out]; rfl)
      have HN := Lib.hid (show setN T b (ec, ep, eg, et) = 2 by unfold setN; rw [HNO.out]; rfl)
      clear bT bE bR L4 hok nd
      go_wp2
      exact bodyPost_ret (results_agg_tmp rfl _ _ (w.heap.size + 2) _ _ (0, 0) _ rfl HS.out Try.undT rfl (by rw [List.size_toArray, numL_len]; exact Try.sizT)) rfl ⟨by rw [HV.out, HN.out]; rfl, HBX.out⟩
end Go.Proofs.Ythgoopdekllanaa

/- A row set: the document's. -/
namespace Go.Proofs.Ythgoopdekllanaa
open Go.RowKit Go.Shelf
open SumM

attribute [local go_sem] Oper.semAt_some build_tab guard_undef
attribute [local go_sem ↓] zero_tab
attribute [local go_sem ↓] nm_ldT nm_ldA nm_stT

set_option maxRecDepth 100000 in
set_option maxHeartbeats 8000000 in
theorem r10Set_w6 (T : Nat → Int) (b : Int) (ec ep eg et : Int) (HF : setOk T b (ec, ep, eg, et) = false) (H : rgT T = true) (H' : rgt ec ep eg et = true) (h0 : ¬ b < 0) (h1 : ¬ 16 ≤ b) (hv : (T 0 == 1099511627776) = false) (w : World) : Calls Try.prog 61 #[tabV T, .int .i64 b, .agg #[.int .i64 ec, .int .i64 ep, .int .i64 eg, .int .i64 et]] w fun e w' => e = .returned (.tuple #[tabV (setV T b (ec, ep, eg, et)), .int .i64 (setN T b (ec, ep, eg, et))]) ∧ Below w.heap.size w w' := by
  have bT := heap_alloc_new w (.cells (numL 65 T).toArray 26)
  have LT := (Below.refl w.heap.size w).alloc (Nat.le_refl _) (.cells (numL 65 T).toArray 26)
  have hs1 : (w.alloc (.cells (numL 65 T).toArray 26)).heap.size = w.heap.size + 1 := by simp
  go_enter Try.func61, Try.ntmps61
  go_upto_region 1 with (fail)
  generalize w.alloc (.cells (numL 65 T).toArray 26) = Wa at *
  have bE := heap_alloc_new Wa (.cells #[.int .i64 ec, .int .i64 ep, .int .i64 eg, .int .i64 et] 23)
  have bT := (Below.heap_alloc Wa (.cells #[.int .i64 ec, .int .i64 ep, .int .i64 eg, .int .i64 et] 23) _ (by omega)).trans bT
  have LE := LT.alloc LT.size (.cells #[.int .i64 ec, .int .i64 ep, .int .i64 eg, .int .i64 et] 23)
  have hs2 : (Wa.alloc (.cells #[.int .i64 ec, .int .i64 ep, .int .i64 eg, .int .i64 et] 23)).heap.size = w.heap.size + 2 := by simp; omega
  rw [hs1] at bE
  generalize Wa.alloc (.cells #[.int .i64 ec, .int .i64 ep, .int .i64 eg, .int .i64 et] 23) = Wb at *
  have bR := heap_alloc_new Wb (.cells (numL 65 zeroT).toArray 26)
  have bT := (Below.heap_alloc Wb (.cells (numL 65 zeroT).toArray 26) _ (by omega)).trans bT
  have bE := (Below.heap_alloc Wb (.cells (numL 65 zeroT).toArray 26) _ (by omega)).trans bE
  have L0 := LE.alloc LE.size (.cells (numL 65 zeroT).toArray 26)
  rw [hs2] at bR
  generalize Wb.alloc (.cells (numL 65 zeroT).toArray 26) = W0 at *
  clear LT LE hs1 hs2
  have fin : Hid (∀ W2 : World, Below W0.heap.size W0 W2 → NB (w.heap.size + 2) 26 65 zeroT W2 ∧ Below w.heap.size w W2 ∧ NB w.heap.size 26 65 T W2 ∧ W2.heap[w.heap.size + 1]? = some (.cells #[.int .i64 ec, .int .i64 ep, .int .i64 eg, .int .i64 et] 23 (0, 0))) := Lib.hid fun W2 m => ⟨bb bR m, L0.trans (m.mono L0.size), bb bT m, bb bE m⟩
  have n0 := (Below.refl W0.heap.size W0).drew
  have CE := Lib.hid (fun W (m : Below W0.heap.size W0 W) => show (ldS 26 (.pointer (some ⟨w.heap.size, 0, none⟩))).run Try.prog W = .ok (tabV T) W ∧ W.cell? ⟨w.heap.size + 1, 0, none⟩ = some (.int .i64 ec) ∧ W.cell? ⟨w.heap.size + 1, 1, none⟩ = some (.int .i64 ep) ∧ W.cell? ⟨w.heap.size + 1, 2, none⟩ = some (.int .i64 eg) ∧ W.cell? ⟨w.heap.size + 1, 3, none⟩ = some (.int .i64 et) ∧ W.cell? ⟨w.heap.size, 0, none⟩ = some (.int .i64 (T 0)) from
    ⟨ld_tab (bb bT m), (ent_cells _ _ _ _ (bb bE m)).1, (ent_cells _ _ _ _ (bb bE m)).2.1, (ent_cells _ _ _ _ (bb bE m)).2.2.1, (ent_cells _ _ _ _ (bb bE m)).2.2.2, nb_cell (bb bT m) (by omega)⟩)
  have HT := Lib.hid bT
  have nc := n0
  obtain ⟨x0, x1, x2, x3, x4, x5⟩ := CE.out _ nc
  clear bE bR L0
  go_cut [37] (fun v wx => v = .bool (!(setOk T b (ec, ep, eg, et))) ∧ Below W0.heap.size W0 wx)
  case first =>
    obtain ⟨r, hr⟩ : ∃ r, rgT T = r := ⟨_, rfl⟩
    obtain ⟨r', hr'⟩ : ∃ r', rgt ec ep eg et = r' := ⟨_, rfl⟩
    obtain ⟨r2, hr2⟩ : ∃ r2, decide ((rowT T b.toNat).2.2.1 < eg) = r2 := ⟨_, rfl⟩
    have KR := Lib.hid (fun W => hr ▸ r10Right_any T W)
    have KE := Lib.hid (fun W => hr' ▸ r9Right_any ec ep eg et W)
    have KN := Lib.hid (fun W => hr2 ▸ r9Newer_any ec ep eg et (rowT T b.toNat).1 (rowT T b.toNat).2.1 (rowT T b.toNat).2.2.1 (rowT T b.toNat).2.2.2 W)
    have HO : setOk T b (ec, ep, eg, et) = (r && r' && decide (0 ≤ b) && decide (b < 16) && !(T 0 == 1099511627776) && r2) := by
      unfold setOk
      rw [← hr, ← hr', ← hr2]
      rfl
    obtain rfl : r = true := by rw [← hr]; exact H
    obtain rfl : r' = true := by rw [← hr']; exact H'
    clear hr hr' hr2 bT H H'
    rw [show decide (0 ≤ b) = true by simpa using h0] at HO
    have e0 : decide (b < 0) = false := by simpa using h0
    rw [show decide (b < 16) = true by simpa using h1] at HO
    have e1 : decide (16 ≤ b) = false := by simpa using h1
    obtain ⟨k, rfl⟩ : ∃ k : Nat, b = (k : Int) := ⟨b.toNat, by omega⟩
    have hk : k < 16 := by omega
    have hk1 : (k : Int) < 16 := by omega
    obtain ⟨t, ht⟩ : ∃ t, (T 0 == 1099511627776) = t := ⟨_, rfl⟩
    rw [ht] at HO
    obtain rfl : t = false := by rw [← ht]; exact hv
    clear h0 h1 hv
    have CW := Lib.hid (fun W (m : Below W0.heap.size W0 W) => ent_of_range _ _ _ _ (show W.rangeAt w.heap.size (1 + k * 4) (entC ((rowT T k).1, (rowT T k).2.1, (rowT T k).2.2.1, (rowT T k).2.2.2)) from rng_row (bb HT.out m) k hk))
    simp only [Int.toNat_natCast] at KN
    generalize rowT T k = u at *
    obtain ⟨u0, u1, u2, u3⟩ := u
    obtain ⟨y0, y1, y2, y3⟩ := CW.out _ nc
    have HO := Lib.hid (show setOk T (k : Int) (ec, ep, eg, et) = r2 by rw [HO]; cases r2 <;> rfl)
    obtain rfl : r2 = false := by rw [← HO.out]; exact HF
    · skip
      have CS := Lib.hid (fun W (m : Below W0.heap.size W0 W) => show (ldS 26 (.pointer (some ⟨w.heap.size, 0, none⟩))).run Try.prog W = .ok (tabV T) W ∧ W.cell? ⟨w.heap.size + 1, 0, none⟩ = some (.int .i64 ec) ∧ W.cell? ⟨w.heap.size + 1, 1, none⟩ = some (.int .i64 ep) ∧ W.cell? ⟨w.heap.size + 1, 2, none⟩ = some (.int .i64 eg) ∧ W.cell? ⟨w.heap.size + 1, 3, none⟩ = some (.int .i64 et) ∧ W.cell? ⟨w.heap.size, 0, none⟩ = some (.int .i64 (T 0)) ∧ W.cell? ⟨w.heap.size, 1 + k * 4, none⟩ = some (.int .i64 u0) ∧ W.cell? ⟨w.heap.size, 1 + k * 4 + 1, none⟩ = some (.int .i64 u1) ∧ W.cell? ⟨w.heap.size, 1 + k * 4 + 2, none⟩ = some (.int .i64 u2) ∧ W.cell? ⟨w.heap.size, 1 + k * 4 + 3, none⟩ = some (.int .i64 u3) from ⟨(CE.out W m).1, (CE.out W m).2.1, (CE.out W m).2.2.1, (CE.out W m).2.2.2.1, (CE.out W m).2.2.2.2.1, (CE.out W m).2.2.2.2.2, CW.out W m⟩)
      clear x0 x1 x2 x3 x4 x5 y0 y1 y2 y3
      refine wp_region_held_drew (S := fun W => (ldS 26 (.pointer (some ⟨w.heap.size, 0, none⟩))).run Try.prog W = .ok (tabV T) W ∧ W.cell? ⟨w.heap.size + 1, 0, none⟩ = some (.int .i64 ec) ∧ W.cell? ⟨w.heap.size + 1, 1, none⟩ = some (.int .i64 ep) ∧ W.cell? ⟨w.heap.size + 1, 2, none⟩ = some (.int .i64 eg) ∧ W.cell? ⟨w.heap.size + 1, 3, none⟩ = some (.int .i64 et) ∧ W.cell? ⟨w.heap.size, 0, none⟩ = some (.int .i64 (T 0)) ∧ W.cell? ⟨w.heap.size, 1 + k * 4, none⟩ = some (.int .i64 u0) ∧ W.cell? ⟨w.heap.size, 1 + k * 4 + 1, none⟩ = some (.int .i64 u1) ∧ W.cell? ⟨w.heap.size, 1 + k * 4 + 2, none⟩ = some (.int .i64 u2) ∧ W.cell? ⟨w.heap.size, 1 + k * 4 + 3, none⟩ = some (.int .i64 u3)) (by kernel_rfl) (CS.out _ nc) (fun hHeld => ?_)
      refine wpAnyH_take (i := 0) (oi := { dst := some 8, op := Op.load 26 (Operand.tmp 3), type := 26, pos := "ref.go:33", after := #[], guard := none }) (v := ?_) rfl (by kernel_rfl) (by kernel_rfl) (by kernel_rfl) (fun _ _ _ h => h) (Or.inl ⟨by rfl, ?_⟩) (by assumption) ?_
      rotate_left
      · intro w hSw
        (try dsimp only at hSw)
        first | (go_simp; done) | (go_simp; with_reducible rfl)
      (try simp only [Act.put, List.setIfInBounds_toArray, List.set_cons_zero, List.set_cons_succ])
      refine wpAnyH_ready (rs := [1]) (by kernel_rfl) (by simp) ?_
      refine AllReadyH.cons (o := { dst := some 9, op := Op.call { callee := Callee.value (Operand.func 45), args := #[Operand.tmp 8], argTypes := #[26] }, type := 4, pos := "ref.go:33", after := #[{ on := 0, ground := Ground.data }], guard := none }) rfl (fun K hK => ?_) AllReadyH.nil
      go_simp
      refine (KR.out _).mono ?_
      rintro e wx ⟨rfl, jx⟩
      replace nc := nc.trans (jx.mono nc.size)
      clear jx
      refine hK.out _ _ (CS.out _ nc) (fun hHeld => ?_)
      clear hK K
      (try simp only [Act.put, List.setIfInBounds_toArray, List.set_cons_zero, List.set_cons_succ])
      refine wpAnyH_take (i := 2) (oi := { dst := some 10, op := Op.unOp UnOp.not 4 (Operand.tmp 9), type := 4, pos := "ref.go:33", after := #[{ on := 1, ground := Ground.data }], guard := none }) (v := ?_) rfl (by kernel_rfl) (by kernel_rfl) (by kernel_rfl) (fun _ _ _ h => h) (Or.inl ⟨by rfl, ?_⟩) (by assumption) ?_
      rotate_left
      · intro w hSw
        (try dsimp only at hSw)
        first | (go_simp; done) | (go_simp; with_reducible rfl)
      (try simp only [Act.put, List.setIfInBounds_toArray, List.set_cons_zero, List.set_cons_succ])
      refine wpAnyH_take (i := 3) (oi := { dst := some 11, op := Op.move (Operand.tmp 10), type := 4, pos := "ref.go:33", after := #[{ on := 2, ground := Ground.data }, { on := 1, ground := Ground.chain }], guard := none }) (v := ?_) rfl (by kernel_rfl) (by kernel_rfl) (by kernel_rfl) (fun _ _ _ h => h) (Or.inl ⟨by rfl, ?_⟩) (by assumption) ?_
      rotate_left
      · intro w hSw
        (try dsimp only at hSw)
        first | (go_simp; done) | (go_simp; with_reducible rfl)
      (try simp only [Act.put, List.setIfInBounds_toArray, List.set_cons_zero, List.set_cons_succ])
      refine wpAnyH_take (i := 4) (oi := { dst := some 12, op := Op.load 23 (Operand.tmp 5), type := 23, pos := "ref.go:33", after := #[{ on := 3, ground := Ground.guard }], guard := some (3, false) }) (v := ?_) rfl (by kernel_rfl) (by kernel_rfl) (by kernel_rfl) (fun _ _ _ h => h) (Or.inl ⟨by rfl, ?_⟩) (by assumption) ?_
      rotate_left
      · intro w hSw
        (try dsimp only at hSw)
        first | (go_simp; done) | (go_simp; with_reducible rfl)
      (try simp only [Act.put, List.setIfInBounds_toArray, List.set_cons_zero, List.set_cons_succ])
      refine wpAnyH_ready (rs := [5]) (by kernel_rfl) (by simp) ?_
      refine AllReadyH.cons (o := { dst := some 13, op := Op.call { callee := Callee.value (Operand.func 55), args := #[Operand.tmp 12], argTypes := #[23] }, type := 4, pos := "ref.go:33", after := #[{ on := 4, ground := Ground.data }, { on := 3, ground := Ground.chain }, { on := 3, ground := Ground.guard }], guard := some (3, false) }) rfl (fun K hK => ?_) AllReadyH.nil
      go_simp
      refine (KE.out _).mono ?_
      rintro e wx ⟨rfl, jx⟩
      replace nc := nc.trans (jx.mono nc.size)
      clear jx
      refine hK.out _ _ (CS.out _ nc) (fun hHeld => ?_)
      clear hK K
      (try simp only [Act.put, List.setIfInBounds_toArray, List.set_cons_zero, List.set_cons_succ])
      refine wpAnyH_take (i := 6) (oi := { dst := some 14, op := Op.unOp UnOp.not 4 (Operand.tmp 13), type := 4, pos := "ref.go:33", after := #[{ on := 5, ground := Ground.data }, { on := 3, ground := Ground.guard }], guard := some (3, false) }) (v := ?_) rfl (by kernel_rfl) (by kernel_rfl) (by kernel_rfl) (fun _ _ _ h => h) (Or.inl ⟨by rfl, ?_⟩) (by assumption) ?_
      rotate_left
      · intro w hSw
        (try dsimp only at hSw)
        first | (go_simp; done) | (go_simp; with_reducible rfl)
      (try simp only [Act.put, List.setIfInBounds_toArray, List.set_cons_zero, List.set_cons_succ])
      refine wpAnyH_take (i := 7) (oi := { dst := some 15, op := Op.pick (Operand.tmp 11) (Operand.const (Value.bool true)) (Operand.tmp 14), type := 4, pos := "ref.go:33", after := #[{ on := 3, ground := Ground.data }, { on := 6, ground := Ground.data }], guard := none }) (v := ?_) rfl (by kernel_rfl) (by kernel_rfl) (by kernel_rfl) (fun _ _ _ h => h) (Or.inl ⟨by rfl, ?_⟩) (by assumption) ?_
      rotate_left
      · intro w hSw
        (try dsimp only at hSw)
        first | (go_simp; done) | (go_simp; with_reducible rfl)
      (try simp only [Act.put, List.setIfInBounds_toArray, List.set_cons_zero, List.set_cons_succ])
      refine wpAnyH_take (i := 8) (oi := { dst := some 16, op := Op.move (Operand.tmp 15), type := 4, pos := "ref.go:33", after := #[{ on := 7, ground := Ground.data }, { on := 5, ground := Ground.chain }], guard := none }) (v := ?_) rfl (by kernel_rfl) (by kernel_rfl) (by kernel_rfl) (fun _ _ _ h => h) (Or.inl ⟨by rfl, ?_⟩) (by assumption) ?_
      rotate_left
      · intro w hSw
        (try dsimp only at hSw)
        first | (go_simp; done) | (go_simp; with_reducible rfl)
      (try simp only [Act.put, List.setIfInBounds_toArray, List.set_cons_zero, List.set_cons_succ])
      refine wpAnyH_take (i := 9) (oi := { dst := some 17, op := Op.move (Operand.tmp 1), type := 3, pos := "ref.go:33", after := #[{ on := 8, ground := Ground.guard }], guard := some (8, false) }) (v := ?_) rfl (by kernel_rfl) (by kernel_rfl) (by kernel_rfl) (fun _ _ _ h => h) (Or.inl ⟨by rfl, ?_⟩) (by assumption) ?_
      rotate_left
      · intro w hSw
        (try dsimp only at hSw)
        first | (go_simp; done) | (go_simp; with_reducible rfl)
      (try simp only [Act.put, List.setIfInBounds_toArray, List.set_cons_zero, List.set_cons_succ])
      refine wpAnyH_take (i := 10) (oi := { dst := some 18, op := Op.binOp BinOp.lss 3 (Operand.tmp 17) (Operand.const (Value.int IntKind.i64 0)) 3, type := 4, pos := "ref.go:33", after := #[{ on := 9, ground := Ground.data }, { on := 8, ground := Ground.guard }], guard := some (8, false) }) (v := ?_) rfl (by kernel_rfl) (by kernel_rfl) (by kernel_rfl) (fun _ _ _ h => h) (Or.inl ⟨by rfl, ?_⟩) (by assumption) ?_
      rotate_left
      · intro w hSw
        (try dsimp only at hSw)
        first | (go_simp; done) | (go_simp; with_reducible rfl)
      (try simp only [Act.put, List.setIfInBounds_toArray, List.set_cons_zero, List.set_cons_succ])
      refine wpAnyH_take (i := 11) (oi := { dst := some 19, op := Op.pick (Operand.tmp 16) (Operand.const (Value.bool true)) (Operand.tmp 18), type := 4, pos := "ref.go:33", after := #[{ on := 8, ground := Ground.data }, { on := 10, ground := Ground.data }], guard := none }) (v := ?_) rfl (by kernel_rfl) (by kernel_rfl) (by kernel_rfl) (fun _ _ _ h => h) (Or.inl ⟨by rfl, ?_⟩) (by assumption) ?_
      rotate_left
      · intro w hSw
        (try dsimp only at hSw)
        first | (go_simp; done) | (go_simp; with_reducible rfl)
      (try simp only [Act.put, List.setIfInBounds_toArray, List.set_cons_zero, List.set_cons_succ])
      refine wpAnyH_take (i := 12) (oi := { dst := some 20, op := Op.move (Operand.tmp 19), type := 4, pos := "ref.go:33", after := #[{ on := 11, ground := Ground.data }, { on := 8, ground := Ground.chain }], guard := none }) (v := ?_) rfl (by kernel_rfl) (by kernel_rfl) (by kernel_rfl) (fun _ _ _ h => h) (Or.inl ⟨by rfl, ?_⟩) (by assumption) ?_
      rotate_left
      · intro w hSw
        (try dsimp only at hSw)
        first | (go_simp; done) | (go_simp; with_reducible rfl)
      (try simp only [Act.put, List.setIfInBounds_toArray, List.set_cons_zero, List.set_cons_succ])
      refine wpAnyH_take (i := 13) (oi := { dst := some 21, op := Op.move (Operand.tmp 1), type := 3, pos := "ref.go:33", after := #[{ on := 12, ground := Ground.guard }], guard := some (12, false) }) (v := ?_) rfl (by kernel_rfl) (by kernel_rfl) (by kernel_rfl) (fun _ _ _ h => h) (Or.inl ⟨by rfl, ?_⟩) (by assumption) ?_
      rotate_left
      · intro w hSw
        (try dsimp only at hSw)
        first | (go_simp; done) | (go_simp; with_reducible rfl)
      (try simp only [Act.put, List.setIfInBounds_toArray, List.set_cons_zero, List.set_cons_succ])
      refine wpAnyH_take (i := 14) (oi := { dst := some 22, op := Op.binOp BinOp.geq 3 (Operand.tmp 21) (Operand.const (Value.int IntKind.i64 16)) 3, type := 4, pos := "ref.go:33", after := #[{ on := 13, ground := Ground.data }, { on := 12, ground := Ground.guard }], guard := some (12, false) }) (v := ?_) rfl (by kernel_rfl) (by kernel_rfl) (by kernel_rfl) (fun _ _ _ h => h) (Or.inl ⟨by rfl, ?_⟩) (by assumption) ?_
      rotate_left
      · intro w hSw
        (try dsimp only at hSw)
        first | (go_simp; done) | (go_simp; with_reducible rfl)
      (try simp only [Act.put, List.setIfInBounds_toArray, List.set_cons_zero, List.set_cons_succ])
      refine wpAnyH_take (i := 15) (oi := { dst := some 23, op := Op.pick (Operand.tmp 20) (Operand.const (Value.bool true)) (Operand.tmp 22), type := 4, pos := "ref.go:33", after := #[{ on := 12, ground := Ground.data }, { on := 14, ground := Ground.data }], guard := none }) (v := ?_) rfl (by kernel_rfl) (by kernel_rfl) (by kernel_rfl) (fun _ _ _ h => h) (Or.inl ⟨by rfl, ?_⟩) (by assumption) ?_
      rotate_left
      · intro w hSw
        (try dsimp only at hSw)
        first | (go_simp; done) | (go_simp; with_reducible rfl)
      (try simp only [Act.put, List.setIfInBounds_toArray, List.set_cons_zero, List.set_cons_succ])
      refine wpAnyH_take (i := 16) (oi := { dst := some 24, op := Op.move (Operand.tmp 23), type := 4, pos := "ref.go:33", after := #[{ on := 15, ground := Ground.data }, { on := 12, ground := Ground.chain }], guard := none }) (v := ?_) rfl (by kernel_rfl) (by kernel_rfl) (by kernel_rfl) (fun _ _ _ h => h) (Or.inl ⟨by rfl, ?_⟩) (by assumption) ?_
      rotate_left
      · intro w hSw
        (try dsimp only at hSw)
        first | (go_simp; done) | (go_simp; with_reducible rfl)
      (try simp only [Act.put, List.setIfInBounds_toArray, List.set_cons_zero, List.set_cons_succ])
      refine wpAnyH_take (i := 17) (oi := { dst := some 25, op := Op.fieldAddr 26 (Operand.tmp 3) 0, type := 0, pos := "ref.go:33", after := #[{ on := 16, ground := Ground.guard }], guard := some (16, false) }) (v := ?_) rfl (by kernel_rfl) (by kernel_rfl) (by kernel_rfl) (fun _ _ _ h => h) (Or.inl ⟨by rfl, ?_⟩) (by assumption) ?_
      rotate_left
      · intro w hSw
        (try dsimp only at hSw)
        first | (go_simp; done) | (go_simp; with_reducible rfl)
      (try simp only [Act.put, List.setIfInBounds_toArray, List.set_cons_zero, List.set_cons_succ])
      refine wpAnyH_take (i := 18) (oi := { dst := some 26, op := Op.load 3 (Operand.tmp 25), type := 3, pos := "ref.go:33", after := #[{ on := 17, ground := Ground.data }, { on := 16, ground := Ground.guard }], guard := some (16, false) }) (v := ?_) rfl (by kernel_rfl) (by kernel_rfl) (by kernel_rfl) (fun _ _ _ h => h) (Or.inl ⟨by rfl, ?_⟩) (by assumption) ?_
      rotate_left
      · intro w hSw
        (try dsimp only at hSw)
        first | (go_simp; done) | (go_simp; with_reducible rfl)
      (try simp only [Act.put, List.setIfInBounds_toArray, List.set_cons_zero, List.set_cons_succ])
      refine wpAnyH_take (i := 19) (oi := { dst := some 27, op := Op.binOp BinOp.eql 3 (Operand.tmp 26) (Operand.const (Value.int IntKind.i64 1099511627776)) 3, type := 4, pos := "ref.go:33", after := #[{ on := 18, ground := Ground.data }, { on := 16, ground := Ground.guard }], guard := some (16, false) }) (v := ?_) rfl (by kernel_rfl) (by kernel_rfl) (by kernel_rfl) (fun _ _ _ h => h) (Or.inl ⟨by rfl, ?_⟩) (by assumption) ?_
      rotate_left
      · intro w hSw
        (try dsimp only at hSw)
        first | (go_simp; done) | (go_simp; with_reducible rfl)
      (try simp only [Act.put, List.setIfInBounds_toArray, List.set_cons_zero, List.set_cons_succ])
      refine wpAnyH_take (i := 20) (oi := { dst := some 28, op := Op.pick (Operand.tmp 24) (Operand.const (Value.bool true)) (Operand.tmp 27), type := 4, pos := "ref.go:33", after := #[{ on := 16, ground := Ground.data }, { on := 19, ground := Ground.data }], guard := none }) (v := ?_) rfl (by kernel_rfl) (by kernel_rfl) (by kernel_rfl) (fun _ _ _ h => h) (Or.inl ⟨by rfl, ?_⟩) (by assumption) ?_
      rotate_left
      · intro w hSw
        (try dsimp only at hSw)
        first | (go_simp; done) | (go_simp; with_reducible rfl)
      (try simp only [Act.put, List.setIfInBounds_toArray, List.set_cons_zero, List.set_cons_succ])
      refine wpAnyH_take (i := 21) (oi := { dst := some 29, op := Op.move (Operand.tmp 28), type := 4, pos := "ref.go:33", after := #[{ on := 20, ground := Ground.data }, { on := 16, ground := Ground.chain }], guard := none }) (v := ?_) rfl (by kernel_rfl) (by kernel_rfl) (by kernel_rfl) (fun _ _ _ h => h) (Or.inl ⟨by rfl, ?_⟩) (by assumption) ?_
      rotate_left
      · intro w hSw
        (try dsimp only at hSw)
        first | (go_simp; done) | (go_simp; with_reducible rfl)
      (try simp only [Act.put, List.setIfInBounds_toArray, List.set_cons_zero, List.set_cons_succ])
      refine wpAnyH_take (i := 22) (oi := { dst := some 30, op := Op.load 23 (Operand.tmp 5), type := 23, pos := "ref.go:33", after := #[{ on := 21, ground := Ground.guard }], guard := some (21, false) }) (v := ?_) rfl (by kernel_rfl) (by kernel_rfl) (by kernel_rfl) (fun _ _ _ h => h) (Or.inl ⟨by rfl, ?_⟩) (by assumption) ?_
      rotate_left
      · intro w hSw
        (try dsimp only at hSw)
        first | (go_simp; done) | (go_simp; with_reducible rfl)
      (try simp only [Act.put, List.setIfInBounds_toArray, List.set_cons_zero, List.set_cons_succ])
      refine wpAnyH_take (i := 23) (oi := { dst := some 31, op := Op.move (Operand.tmp 1), type := 3, pos := "ref.go:33", after := #[{ on := 21, ground := Ground.guard }], guard := some (21, false) }) (v := ?_) rfl (by kernel_rfl) (by kernel_rfl) (by kernel_rfl) (fun _ _ _ h => h) (Or.inl ⟨by rfl, ?_⟩) (by assumption) ?_
      rotate_left
      · intro w hSw
        (try dsimp only at hSw)
        first | (go_simp; done) | (go_simp; with_reducible rfl)
      (try simp only [Act.put, List.setIfInBounds_toArray, List.set_cons_zero, List.set_cons_succ])
      refine wpAnyH_take (i := 24) (oi := { dst := some 32, op := Op.fieldAddr 26 (Operand.tmp 3) 1, type := 0, pos := "ref.go:33", after := #[{ on := 21, ground := Ground.guard }], guard := some (21, false) }) (v := ?_) rfl (by kernel_rfl) (by kernel_rfl) (by kernel_rfl) (fun _ _ _ h => h) (Or.inl ⟨by rfl, ?_⟩) (by assumption) ?_
      rotate_left
      · intro w hSw
        (try dsimp only at hSw)
        first | (go_simp; done) | (go_simp; with_reducible rfl)
      (try simp only [Act.put, List.setIfInBounds_toArray, List.set_cons_zero, List.set_cons_succ])
      refine wpAnyH_take (i := 25) (oi := { dst := some 33, op := Op.indexAddr 24 (Operand.tmp 32) (Operand.tmp 31), type := 0, pos := "ref.go:33", after := #[{ on := 24, ground := Ground.data }, { on := 23, ground := Ground.data }, { on := 21, ground := Ground.guard }], guard := some (21, false) }) (v := ?_) rfl (by kernel_rfl) (by kernel_rfl) (by kernel_rfl) (fun _ _ _ h => h) (Or.inl ⟨by rfl, ?_⟩) (by assumption) ?_
      rotate_left
      · intro w hSw
        (try dsimp only at hSw)
        first | (go_simp; done) | (go_simp; with_reducible rfl)
      (try simp only [Act.put, List.setIfInBounds_toArray, List.set_cons_zero, List.set_cons_succ])
      refine wpAnyH_take (i := 26) (oi := { dst := some 34, op := Op.load 23 (Operand.tmp 33), type := 23, pos := "ref.go:33", after := #[{ on := 25, ground := Ground.data }, { on := 21, ground := Ground.guard }], guard := some (21, false) }) (v := ?_) rfl (by kernel_rfl) (by kernel_rfl) (by kernel_rfl) (fun _ _ _ h => h) (Or.inl ⟨by rfl, ?_⟩) (by assumption) ?_
      rotate_left
      · intro w hSw
        (try dsimp only at hSw)
        first | (go_simp; done) | (go_simp; with_reducible rfl)
      (try simp only [Act.put, List.setIfInBounds_toArray, List.set_cons_zero, List.set_cons_succ])
      refine wpAnyH_ready (rs := [27]) (by kernel_rfl) (by simp) ?_
      refine AllReadyH.cons (o := { dst := some 35, op := Op.call { callee := Callee.value (Operand.func 78), args := #[Operand.tmp 30, Operand.tmp 34], argTypes := #[23, 23] }, type := 4, pos := "ref.go:33", after := #[{ on := 22, ground := Ground.data }, { on := 26, ground := Ground.data }, { on := 21, ground := Ground.chain }, { on := 21, ground := Ground.guard }], guard := some (21, false) }) rfl (fun K hK => ?_) AllReadyH.nil
      go_simp
      refine (KN.out _).mono ?_
      rintro e wx ⟨rfl, jx⟩
      replace nc := nc.trans (jx.mono nc.size)
      clear jx
      refine hK.out _ _ (CS.out _ nc) (fun hHeld => ?_)
      clear hK K
      (try simp only [Act.put, List.setIfInBounds_toArray, List.set_cons_zero, List.set_cons_succ])
      refine wpAnyH_take (i := 28) (oi := { dst := some 36, op := Op.unOp UnOp.not 4 (Operand.tmp 35), type := 4, pos := "ref.go:33", after := #[{ on := 27, ground := Ground.data }, { on := 21, ground := Ground.guard }], guard := some (21, false) }) (v := ?_) rfl (by kernel_rfl) (by kernel_rfl) (by kernel_rfl) (fun _ _ _ h => h) (Or.inl ⟨by rfl, ?_⟩) (by assumption) ?_
      rotate_left
      · intro w hSw
        (try dsimp only at hSw)
        first | (go_simp; done) | (go_simp; with_reducible rfl)
      (try simp only [Act.put, List.setIfInBounds_toArray, List.set_cons_zero, List.set_cons_succ])
      refine wpAnyH_take (i := 29) (oi := { dst := some 37, op := Op.pick (Operand.tmp 29) (Operand.const (Value.bool true)) (Operand.tmp 36), type := 4, pos := "ref.go:33", after := #[{ on := 21, ground := Ground.data }, { on := 28, ground := Ground.data }], guard := none }) (v := ?_) rfl (by kernel_rfl) (by kernel_rfl) (by kernel_rfl) (fun _ _ _ h => h) (Or.inl ⟨by rfl, ?_⟩) (by assumption) ?_
      rotate_left
      · intro w hSw
        (try dsimp only at hSw)
        first | (go_simp; done) | (go_simp; with_reducible rfl)
      (try simp only [Act.put, List.setIfInBounds_toArray, List.set_cons_zero, List.set_cons_succ])
      refine wpAnyH_done (by kernel_rfl) ?_ _
      go_wp2_with fail
      go_meet
      exact ⟨by rw [HO.out]; rfl, nc⟩
  case rest =>
    obtain ⟨hcv, nd⟩ := hcut
    obtain ⟨ok, hok⟩ : ∃ ok, setOk T b (ec, ep, eg, et) = ok := ⟨_, rfl⟩
    rw [hok] at hcv
    subst hcv
    clear h0 h1 hv x0 x1 x2 x3 x4 x5 nc CE n0 bT
    obtain ⟨bR, L4, bT, bE⟩ := fin.out _ nd
    have hok2 : ok = false := by rw [← hok]; exact HF
    subst hok2
    · have HNO := Lib.hid hok
      simp only [Bool.not_false]
      have s0 := st_tab bR zeroT
      have HS := Lib.hid (nb_full bR zeroT)
      have HBX := Lib.hid (below_setCells (w.heap.size + 2) (by omega) (numL 65 zeroT) 0 w _ L4)
      have HV := Lib.hid (show setV T b (ec, ep, eg, et) = zeroT by unfold setV; rw [HNO.out]; rfl)
      have HN := Lib.hid (show setN T b (ec, ep, eg, et) = 2 by unfold setN; rw [HNO.out]; rfl)
      clear bT bE bR L4 hok nd
      go_wp2
      exact bodyPost_ret (results_agg_tmp rfl _ _ (w.heap.size + 2) _ _ (0, 0) _ rfl HS.out Try.undT rfl (by rw [List.size_toArray, numL_len]; exact Try.sizT)) rfl ⟨by rw [HV.out, HN.out]; rfl, HBX.out⟩
end Go.Proofs.Ythgoopdekllanaa

/- A row set: the document's. -/
namespace Go.Proofs.Ythgoopdekllanaa
open Go.RowKit Go.Shelf
open SumM

attribute [local go_sem] Oper.semAt_some build_tab guard_undef
attribute [local go_sem ↓] zero_tab
attribute [local go_sem ↓] nm_ldT nm_ldA nm_stT

set_option maxRecDepth 100000 in
set_option maxHeartbeats 8000000 in
theorem r10Set_w7 (T : Nat → Int) (b : Int) (ec ep eg et : Int) (HF : setOk T b (ec, ep, eg, et) = true) (H : rgT T = true) (H' : rgt ec ep eg et = true) (h0 : ¬ b < 0) (h1 : ¬ 16 ≤ b) (hv : (T 0 == 1099511627776) = false) (w : World) : Calls Try.prog 61 #[tabV T, .int .i64 b, .agg #[.int .i64 ec, .int .i64 ep, .int .i64 eg, .int .i64 et]] w fun e w' => e = .returned (.tuple #[tabV (setV T b (ec, ep, eg, et)), .int .i64 (setN T b (ec, ep, eg, et))]) ∧ Below w.heap.size w w' := by
  have bT := heap_alloc_new w (.cells (numL 65 T).toArray 26)
  have LT := (Below.refl w.heap.size w).alloc (Nat.le_refl _) (.cells (numL 65 T).toArray 26)
  have hs1 : (w.alloc (.cells (numL 65 T).toArray 26)).heap.size = w.heap.size + 1 := by simp
  go_enter Try.func61, Try.ntmps61
  go_upto_region 1 with (fail)
  generalize w.alloc (.cells (numL 65 T).toArray 26) = Wa at *
  have bE := heap_alloc_new Wa (.cells #[.int .i64 ec, .int .i64 ep, .int .i64 eg, .int .i64 et] 23)
  have bT := (Below.heap_alloc Wa (.cells #[.int .i64 ec, .int .i64 ep, .int .i64 eg, .int .i64 et] 23) _ (by omega)).trans bT
  have LE := LT.alloc LT.size (.cells #[.int .i64 ec, .int .i64 ep, .int .i64 eg, .int .i64 et] 23)
  have hs2 : (Wa.alloc (.cells #[.int .i64 ec, .int .i64 ep, .int .i64 eg, .int .i64 et] 23)).heap.size = w.heap.size + 2 := by simp; omega
  rw [hs1] at bE
  generalize Wa.alloc (.cells #[.int .i64 ec, .int .i64 ep, .int .i64 eg, .int .i64 et] 23) = Wb at *
  have bR := heap_alloc_new Wb (.cells (numL 65 zeroT).toArray 26)
  have bT := (Below.heap_alloc Wb (.cells (numL 65 zeroT).toArray 26) _ (by omega)).trans bT
  have bE := (Below.heap_alloc Wb (.cells (numL 65 zeroT).toArray 26) _ (by omega)).trans bE
  have L0 := LE.alloc LE.size (.cells (numL 65 zeroT).toArray 26)
  rw [hs2] at bR
  generalize Wb.alloc (.cells (numL 65 zeroT).toArray 26) = W0 at *
  clear LT LE hs1 hs2
  have fin : Hid (∀ W2 : World, Below W0.heap.size W0 W2 → NB (w.heap.size + 2) 26 65 zeroT W2 ∧ Below w.heap.size w W2 ∧ NB w.heap.size 26 65 T W2 ∧ W2.heap[w.heap.size + 1]? = some (.cells #[.int .i64 ec, .int .i64 ep, .int .i64 eg, .int .i64 et] 23 (0, 0))) := Lib.hid fun W2 m => ⟨bb bR m, L0.trans (m.mono L0.size), bb bT m, bb bE m⟩
  have n0 := (Below.refl W0.heap.size W0).drew
  have CE := Lib.hid (fun W (m : Below W0.heap.size W0 W) => show (ldS 26 (.pointer (some ⟨w.heap.size, 0, none⟩))).run Try.prog W = .ok (tabV T) W ∧ W.cell? ⟨w.heap.size + 1, 0, none⟩ = some (.int .i64 ec) ∧ W.cell? ⟨w.heap.size + 1, 1, none⟩ = some (.int .i64 ep) ∧ W.cell? ⟨w.heap.size + 1, 2, none⟩ = some (.int .i64 eg) ∧ W.cell? ⟨w.heap.size + 1, 3, none⟩ = some (.int .i64 et) ∧ W.cell? ⟨w.heap.size, 0, none⟩ = some (.int .i64 (T 0)) from
    ⟨ld_tab (bb bT m), (ent_cells _ _ _ _ (bb bE m)).1, (ent_cells _ _ _ _ (bb bE m)).2.1, (ent_cells _ _ _ _ (bb bE m)).2.2.1, (ent_cells _ _ _ _ (bb bE m)).2.2.2, nb_cell (bb bT m) (by omega)⟩)
  have HT := Lib.hid bT
  have nc := n0
  obtain ⟨x0, x1, x2, x3, x4, x5⟩ := CE.out _ nc
  clear bE bR L0
  go_cut [37] (fun v wx => v = .bool (!(setOk T b (ec, ep, eg, et))) ∧ Below W0.heap.size W0 wx)
  case first =>
    obtain ⟨r, hr⟩ : ∃ r, rgT T = r := ⟨_, rfl⟩
    obtain ⟨r', hr'⟩ : ∃ r', rgt ec ep eg et = r' := ⟨_, rfl⟩
    obtain ⟨r2, hr2⟩ : ∃ r2, decide ((rowT T b.toNat).2.2.1 < eg) = r2 := ⟨_, rfl⟩
    have KR := Lib.hid (fun W => hr ▸ r10Right_any T W)
    have KE := Lib.hid (fun W => hr' ▸ r9Right_any ec ep eg et W)
    have KN := Lib.hid (fun W => hr2 ▸ r9Newer_any ec ep eg et (rowT T b.toNat).1 (rowT T b.toNat).2.1 (rowT T b.toNat).2.2.1 (rowT T b.toNat).2.2.2 W)
    have HO : setOk T b (ec, ep, eg, et) = (r && r' && decide (0 ≤ b) && decide (b < 16) && !(T 0 == 1099511627776) && r2) := by
      unfold setOk
      rw [← hr, ← hr', ← hr2]
      rfl
    obtain rfl : r = true := by rw [← hr]; exact H
    obtain rfl : r' = true := by rw [← hr']; exact H'
    clear hr hr' hr2 bT H H'
    rw [show decide (0 ≤ b) = true by simpa using h0] at HO
    have e0 : decide (b < 0) = false := by simpa using h0
    rw [show decide (b < 16) = true by simpa using h1] at HO
    have e1 : decide (16 ≤ b) = false := by simpa using h1
    obtain ⟨k, rfl⟩ : ∃ k : Nat, b = (k : Int) := ⟨b.toNat, by omega⟩
    have hk : k < 16 := by omega
    have hk1 : (k : Int) < 16 := by omega
    obtain ⟨t, ht⟩ : ∃ t, (T 0 == 1099511627776) = t := ⟨_, rfl⟩
    rw [ht] at HO
    obtain rfl : t = false := by rw [← ht]; exact hv
    clear h0 h1 hv
    have CW := Lib.hid (fun W (m : Below W0.heap.size W0 W) => ent_of_range _ _ _ _ (show W.rangeAt w.heap.size (1 + k * 4) (entC ((rowT T k).1, (rowT T k).2.1, (rowT T k).2.2.1, (rowT T k).2.2.2)) from rng_row (bb HT.out m) k hk))
    simp only [Int.toNat_natCast] at KN
    generalize rowT T k = u at *
    obtain ⟨u0, u1, u2, u3⟩ := u
    obtain ⟨y0, y1, y2, y3⟩ := CW.out _ nc
    have HO := Lib.hid (show setOk T (k : Int) (ec, ep, eg, et) = r2 by rw [HO]; cases r2 <;> rfl)
    obtain rfl : r2 = true := by rw [← HO.out]; exact HF
    · skip
      have CS := Lib.hid (fun W (m : Below W0.heap.size W0 W) => show (ldS 26 (.pointer (some ⟨w.heap.size, 0, none⟩))).run Try.prog W = .ok (tabV T) W ∧ W.cell? ⟨w.heap.size + 1, 0, none⟩ = some (.int .i64 ec) ∧ W.cell? ⟨w.heap.size + 1, 1, none⟩ = some (.int .i64 ep) ∧ W.cell? ⟨w.heap.size + 1, 2, none⟩ = some (.int .i64 eg) ∧ W.cell? ⟨w.heap.size + 1, 3, none⟩ = some (.int .i64 et) ∧ W.cell? ⟨w.heap.size, 0, none⟩ = some (.int .i64 (T 0)) ∧ W.cell? ⟨w.heap.size, 1 + k * 4, none⟩ = some (.int .i64 u0) ∧ W.cell? ⟨w.heap.size, 1 + k * 4 + 1, none⟩ = some (.int .i64 u1) ∧ W.cell? ⟨w.heap.size, 1 + k * 4 + 2, none⟩ = some (.int .i64 u2) ∧ W.cell? ⟨w.heap.size, 1 + k * 4 + 3, none⟩ = some (.int .i64 u3) from ⟨(CE.out W m).1, (CE.out W m).2.1, (CE.out W m).2.2.1, (CE.out W m).2.2.2.1, (CE.out W m).2.2.2.2.1, (CE.out W m).2.2.2.2.2, CW.out W m⟩)
      clear x0 x1 x2 x3 x4 x5 y0 y1 y2 y3
      refine wp_region_held_drew (S := fun W => (ldS 26 (.pointer (some ⟨w.heap.size, 0, none⟩))).run Try.prog W = .ok (tabV T) W ∧ W.cell? ⟨w.heap.size + 1, 0, none⟩ = some (.int .i64 ec) ∧ W.cell? ⟨w.heap.size + 1, 1, none⟩ = some (.int .i64 ep) ∧ W.cell? ⟨w.heap.size + 1, 2, none⟩ = some (.int .i64 eg) ∧ W.cell? ⟨w.heap.size + 1, 3, none⟩ = some (.int .i64 et) ∧ W.cell? ⟨w.heap.size, 0, none⟩ = some (.int .i64 (T 0)) ∧ W.cell? ⟨w.heap.size, 1 + k * 4, none⟩ = some (.int .i64 u0) ∧ W.cell? ⟨w.heap.size, 1 + k * 4 + 1, none⟩ = some (.int .i64 u1) ∧ W.cell? ⟨w.heap.size, 1 + k * 4 + 2, none⟩ = some (.int .i64 u2) ∧ W.cell? ⟨w.heap.size, 1 + k * 4 + 3, none⟩ = some (.int .i64 u3)) (by kernel_rfl) (CS.out _ nc) (fun hHeld => ?_)
      refine wpAnyH_take (i := 0) (oi := { dst := some 8, op := Op.load 26 (Operand.tmp 3), type := 26, pos := "ref.go:33", after := #[], guard := none }) (v := ?_) rfl (by kernel_rfl) (by kernel_rfl) (by kernel_rfl) (fun _ _ _ h => h) (Or.inl ⟨by rfl, ?_⟩) (by assumption) ?_
      rotate_left
      · intro w hSw
        (try dsimp only at hSw)
        first | (go_simp; done) | (go_simp; with_reducible rfl)
      (try simp only [Act.put, List.setIfInBounds_toArray, List.set_cons_zero, List.set_cons_succ])
      refine wpAnyH_ready (rs := [1]) (by kernel_rfl) (by simp) ?_
      refine AllReadyH.cons (o := { dst := some 9, op := Op.call { callee := Callee.value (Operand.func 45), args := #[Operand.tmp 8], argTypes := #[26] }, type := 4, pos := "ref.go:33", after := #[{ on := 0, ground := Ground.data }], guard := none }) rfl (fun K hK => ?_) AllReadyH.nil
      go_simp
      refine (KR.out _).mono ?_
      rintro e wx ⟨rfl, jx⟩
      replace nc := nc.trans (jx.mono nc.size)
      clear jx
      refine hK.out _ _ (CS.out _ nc) (fun hHeld => ?_)
      clear hK K
      (try simp only [Act.put, List.setIfInBounds_toArray, List.set_cons_zero, List.set_cons_succ])
      refine wpAnyH_take (i := 2) (oi := { dst := some 10, op := Op.unOp UnOp.not 4 (Operand.tmp 9), type := 4, pos := "ref.go:33", after := #[{ on := 1, ground := Ground.data }], guard := none }) (v := ?_) rfl (by kernel_rfl) (by kernel_rfl) (by kernel_rfl) (fun _ _ _ h => h) (Or.inl ⟨by rfl, ?_⟩) (by assumption) ?_
      rotate_left
      · intro w hSw
        (try dsimp only at hSw)
        first | (go_simp; done) | (go_simp; with_reducible rfl)
      (try simp only [Act.put, List.setIfInBounds_toArray, List.set_cons_zero, List.set_cons_succ])
      refine wpAnyH_take (i := 3) (oi := { dst := some 11, op := Op.move (Operand.tmp 10), type := 4, pos := "ref.go:33", after := #[{ on := 2, ground := Ground.data }, { on := 1, ground := Ground.chain }], guard := none }) (v := ?_) rfl (by kernel_rfl) (by kernel_rfl) (by kernel_rfl) (fun _ _ _ h => h) (Or.inl ⟨by rfl, ?_⟩) (by assumption) ?_
      rotate_left
      · intro w hSw
        (try dsimp only at hSw)
        first | (go_simp; done) | (go_simp; with_reducible rfl)
      (try simp only [Act.put, List.setIfInBounds_toArray, List.set_cons_zero, List.set_cons_succ])
      refine wpAnyH_take (i := 4) (oi := { dst := some 12, op := Op.load 23 (Operand.tmp 5), type := 23, pos := "ref.go:33", after := #[{ on := 3, ground := Ground.guard }], guard := some (3, false) }) (v := ?_) rfl (by kernel_rfl) (by kernel_rfl) (by kernel_rfl) (fun _ _ _ h => h) (Or.inl ⟨by rfl, ?_⟩) (by assumption) ?_
      rotate_left
      · intro w hSw
        (try dsimp only at hSw)
        first | (go_simp; done) | (go_simp; with_reducible rfl)
      (try simp only [Act.put, List.setIfInBounds_toArray, List.set_cons_zero, List.set_cons_succ])
      refine wpAnyH_ready (rs := [5]) (by kernel_rfl) (by simp) ?_
      refine AllReadyH.cons (o := { dst := some 13, op := Op.call { callee := Callee.value (Operand.func 55), args := #[Operand.tmp 12], argTypes := #[23] }, type := 4, pos := "ref.go:33", after := #[{ on := 4, ground := Ground.data }, { on := 3, ground := Ground.chain }, { on := 3, ground := Ground.guard }], guard := some (3, false) }) rfl (fun K hK => ?_) AllReadyH.nil
      go_simp
      refine (KE.out _).mono ?_
      rintro e wx ⟨rfl, jx⟩
      replace nc := nc.trans (jx.mono nc.size)
      clear jx
      refine hK.out _ _ (CS.out _ nc) (fun hHeld => ?_)
      clear hK K
      (try simp only [Act.put, List.setIfInBounds_toArray, List.set_cons_zero, List.set_cons_succ])
      refine wpAnyH_take (i := 6) (oi := { dst := some 14, op := Op.unOp UnOp.not 4 (Operand.tmp 13), type := 4, pos := "ref.go:33", after := #[{ on := 5, ground := Ground.data }, { on := 3, ground := Ground.guard }], guard := some (3, false) }) (v := ?_) rfl (by kernel_rfl) (by kernel_rfl) (by kernel_rfl) (fun _ _ _ h => h) (Or.inl ⟨by rfl, ?_⟩) (by assumption) ?_
      rotate_left
      · intro w hSw
        (try dsimp only at hSw)
        first | (go_simp; done) | (go_simp; with_reducible rfl)
      (try simp only [Act.put, List.setIfInBounds_toArray, List.set_cons_zero, List.set_cons_succ])
      refine wpAnyH_take (i := 7) (oi := { dst := some 15, op := Op.pick (Operand.tmp 11) (Operand.const (Value.bool true)) (Operand.tmp 14), type := 4, pos := "ref.go:33", after := #[{ on := 3, ground := Ground.data }, { on := 6, ground := Ground.data }], guard := none }) (v := ?_) rfl (by kernel_rfl) (by kernel_rfl) (by kernel_rfl) (fun _ _ _ h => h) (Or.inl ⟨by rfl, ?_⟩) (by assumption) ?_
      rotate_left
      · intro w hSw
        (try dsimp only at hSw)
        first | (go_simp; done) | (go_simp; with_reducible rfl)
      (try simp only [Act.put, List.setIfInBounds_toArray, List.set_cons_zero, List.set_cons_succ])
      refine wpAnyH_take (i := 8) (oi := { dst := some 16, op := Op.move (Operand.tmp 15), type := 4, pos := "ref.go:33", after := #[{ on := 7, ground := Ground.data }, { on := 5, ground := Ground.chain }], guard := none }) (v := ?_) rfl (by kernel_rfl) (by kernel_rfl) (by kernel_rfl) (fun _ _ _ h => h) (Or.inl ⟨by rfl, ?_⟩) (by assumption) ?_
      rotate_left
      · intro w hSw
        (try dsimp only at hSw)
        first | (go_simp; done) | (go_simp; with_reducible rfl)
      (try simp only [Act.put, List.setIfInBounds_toArray, List.set_cons_zero, List.set_cons_succ])
      refine wpAnyH_take (i := 9) (oi := { dst := some 17, op := Op.move (Operand.tmp 1), type := 3, pos := "ref.go:33", after := #[{ on := 8, ground := Ground.guard }], guard := some (8, false) }) (v := ?_) rfl (by kernel_rfl) (by kernel_rfl) (by kernel_rfl) (fun _ _ _ h => h) (Or.inl ⟨by rfl, ?_⟩) (by assumption) ?_
      rotate_left
      · intro w hSw
        (try dsimp only at hSw)
        first | (go_simp; done) | (go_simp; with_reducible rfl)
      (try simp only [Act.put, List.setIfInBounds_toArray, List.set_cons_zero, List.set_cons_succ])
      refine wpAnyH_take (i := 10) (oi := { dst := some 18, op := Op.binOp BinOp.lss 3 (Operand.tmp 17) (Operand.const (Value.int IntKind.i64 0)) 3, type := 4, pos := "ref.go:33", after := #[{ on := 9, ground := Ground.data }, { on := 8, ground := Ground.guard }], guard := some (8, false) }) (v := ?_) rfl (by kernel_rfl) (by kernel_rfl) (by kernel_rfl) (fun _ _ _ h => h) (Or.inl ⟨by rfl, ?_⟩) (by assumption) ?_
      rotate_left
      · intro w hSw
        (try dsimp only at hSw)
        first | (go_simp; done) | (go_simp; with_reducible rfl)
      (try simp only [Act.put, List.setIfInBounds_toArray, List.set_cons_zero, List.set_cons_succ])
      refine wpAnyH_take (i := 11) (oi := { dst := some 19, op := Op.pick (Operand.tmp 16) (Operand.const (Value.bool true)) (Operand.tmp 18), type := 4, pos := "ref.go:33", after := #[{ on := 8, ground := Ground.data }, { on := 10, ground := Ground.data }], guard := none }) (v := ?_) rfl (by kernel_rfl) (by kernel_rfl) (by kernel_rfl) (fun _ _ _ h => h) (Or.inl ⟨by rfl, ?_⟩) (by assumption) ?_
      rotate_left
      · intro w hSw
        (try dsimp only at hSw)
        first | (go_simp; done) | (go_simp; with_reducible rfl)
      (try simp only [Act.put, List.setIfInBounds_toArray, List.set_cons_zero, List.set_cons_succ])
      refine wpAnyH_take (i := 12) (oi := { dst := some 20, op := Op.move (Operand.tmp 19), type := 4, pos := "ref.go:33", after := #[{ on := 11, ground := Ground.data }, { on := 8, ground := Ground.chain }], guard := none }) (v := ?_) rfl (by kernel_rfl) (by kernel_rfl) (by kernel_rfl) (fun _ _ _ h => h) (Or.inl ⟨by rfl, ?_⟩) (by assumption) ?_
      rotate_left
      · intro w hSw
        (try dsimp only at hSw)
        first | (go_simp; done) | (go_simp; with_reducible rfl)
      (try simp only [Act.put, List.setIfInBounds_toArray, List.set_cons_zero, List.set_cons_succ])
      refine wpAnyH_take (i := 13) (oi := { dst := some 21, op := Op.move (Operand.tmp 1), type := 3, pos := "ref.go:33", after := #[{ on := 12, ground := Ground.guard }], guard := some (12, false) }) (v := ?_) rfl (by kernel_rfl) (by kernel_rfl) (by kernel_rfl) (fun _ _ _ h => h) (Or.inl ⟨by rfl, ?_⟩) (by assumption) ?_
      rotate_left
      · intro w hSw
        (try dsimp only at hSw)
        first | (go_simp; done) | (go_simp; with_reducible rfl)
      (try simp only [Act.put, List.setIfInBounds_toArray, List.set_cons_zero, List.set_cons_succ])
      refine wpAnyH_take (i := 14) (oi := { dst := some 22, op := Op.binOp BinOp.geq 3 (Operand.tmp 21) (Operand.const (Value.int IntKind.i64 16)) 3, type := 4, pos := "ref.go:33", after := #[{ on := 13, ground := Ground.data }, { on := 12, ground := Ground.guard }], guard := some (12, false) }) (v := ?_) rfl (by kernel_rfl) (by kernel_rfl) (by kernel_rfl) (fun _ _ _ h => h) (Or.inl ⟨by rfl, ?_⟩) (by assumption) ?_
      rotate_left
      · intro w hSw
        (try dsimp only at hSw)
        first | (go_simp; done) | (go_simp; with_reducible rfl)
      (try simp only [Act.put, List.setIfInBounds_toArray, List.set_cons_zero, List.set_cons_succ])
      refine wpAnyH_take (i := 15) (oi := { dst := some 23, op := Op.pick (Operand.tmp 20) (Operand.const (Value.bool true)) (Operand.tmp 22), type := 4, pos := "ref.go:33", after := #[{ on := 12, ground := Ground.data }, { on := 14, ground := Ground.data }], guard := none }) (v := ?_) rfl (by kernel_rfl) (by kernel_rfl) (by kernel_rfl) (fun _ _ _ h => h) (Or.inl ⟨by rfl, ?_⟩) (by assumption) ?_
      rotate_left
      · intro w hSw
        (try dsimp only at hSw)
        first | (go_simp; done) | (go_simp; with_reducible rfl)
      (try simp only [Act.put, List.setIfInBounds_toArray, List.set_cons_zero, List.set_cons_succ])
      refine wpAnyH_take (i := 16) (oi := { dst := some 24, op := Op.move (Operand.tmp 23), type := 4, pos := "ref.go:33", after := #[{ on := 15, ground := Ground.data }, { on := 12, ground := Ground.chain }], guard := none }) (v := ?_) rfl (by kernel_rfl) (by kernel_rfl) (by kernel_rfl) (fun _ _ _ h => h) (Or.inl ⟨by rfl, ?_⟩) (by assumption) ?_
      rotate_left
      · intro w hSw
        (try dsimp only at hSw)
        first | (go_simp; done) | (go_simp; with_reducible rfl)
      (try simp only [Act.put, List.setIfInBounds_toArray, List.set_cons_zero, List.set_cons_succ])
      refine wpAnyH_take (i := 17) (oi := { dst := some 25, op := Op.fieldAddr 26 (Operand.tmp 3) 0, type := 0, pos := "ref.go:33", after := #[{ on := 16, ground := Ground.guard }], guard := some (16, false) }) (v := ?_) rfl (by kernel_rfl) (by kernel_rfl) (by kernel_rfl) (fun _ _ _ h => h) (Or.inl ⟨by rfl, ?_⟩) (by assumption) ?_
      rotate_left
      · intro w hSw
        (try dsimp only at hSw)
        first | (go_simp; done) | (go_simp; with_reducible rfl)
      (try simp only [Act.put, List.setIfInBounds_toArray, List.set_cons_zero, List.set_cons_succ])
      refine wpAnyH_take (i := 18) (oi := { dst := some 26, op := Op.load 3 (Operand.tmp 25), type := 3, pos := "ref.go:33", after := #[{ on := 17, ground := Ground.data }, { on := 16, ground := Ground.guard }], guard := some (16, false) }) (v := ?_) rfl (by kernel_rfl) (by kernel_rfl) (by kernel_rfl) (fun _ _ _ h => h) (Or.inl ⟨by rfl, ?_⟩) (by assumption) ?_
      rotate_left
      · intro w hSw
        (try dsimp only at hSw)
        first | (go_simp; done) | (go_simp; with_reducible rfl)
      (try simp only [Act.put, List.setIfInBounds_toArray, List.set_cons_zero, List.set_cons_succ])
      refine wpAnyH_take (i := 19) (oi := { dst := some 27, op := Op.binOp BinOp.eql 3 (Operand.tmp 26) (Operand.const (Value.int IntKind.i64 1099511627776)) 3, type := 4, pos := "ref.go:33", after := #[{ on := 18, ground := Ground.data }, { on := 16, ground := Ground.guard }], guard := some (16, false) }) (v := ?_) rfl (by kernel_rfl) (by kernel_rfl) (by kernel_rfl) (fun _ _ _ h => h) (Or.inl ⟨by rfl, ?_⟩) (by assumption) ?_
      rotate_left
      · intro w hSw
        (try dsimp only at hSw)
        first | (go_simp; done) | (go_simp; with_reducible rfl)
      (try simp only [Act.put, List.setIfInBounds_toArray, List.set_cons_zero, List.set_cons_succ])
      refine wpAnyH_take (i := 20) (oi := { dst := some 28, op := Op.pick (Operand.tmp 24) (Operand.const (Value.bool true)) (Operand.tmp 27), type := 4, pos := "ref.go:33", after := #[{ on := 16, ground := Ground.data }, { on := 19, ground := Ground.data }], guard := none }) (v := ?_) rfl (by kernel_rfl) (by kernel_rfl) (by kernel_rfl) (fun _ _ _ h => h) (Or.inl ⟨by rfl, ?_⟩) (by assumption) ?_
      rotate_left
      · intro w hSw
        (try dsimp only at hSw)
        first | (go_simp; done) | (go_simp; with_reducible rfl)
      (try simp only [Act.put, List.setIfInBounds_toArray, List.set_cons_zero, List.set_cons_succ])
      refine wpAnyH_take (i := 21) (oi := { dst := some 29, op := Op.move (Operand.tmp 28), type := 4, pos := "ref.go:33", after := #[{ on := 20, ground := Ground.data }, { on := 16, ground := Ground.chain }], guard := none }) (v := ?_) rfl (by kernel_rfl) (by kernel_rfl) (by kernel_rfl) (fun _ _ _ h => h) (Or.inl ⟨by rfl, ?_⟩) (by assumption) ?_
      rotate_left
      · intro w hSw
        (try dsimp only at hSw)
        first | (go_simp; done) | (go_simp; with_reducible rfl)
      (try simp only [Act.put, List.setIfInBounds_toArray, List.set_cons_zero, List.set_cons_succ])
      refine wpAnyH_take (i := 22) (oi := { dst := some 30, op := Op.load 23 (Operand.tmp 5), type := 23, pos := "ref.go:33", after := #[{ on := 21, ground := Ground.guard }], guard := some (21, false) }) (v := ?_) rfl (by kernel_rfl) (by kernel_rfl) (by kernel_rfl) (fun _ _ _ h => h) (Or.inl ⟨by rfl, ?_⟩) (by assumption) ?_
      rotate_left
      · intro w hSw
        (try dsimp only at hSw)
        first | (go_simp; done) | (go_simp; with_reducible rfl)
      (try simp only [Act.put, List.setIfInBounds_toArray, List.set_cons_zero, List.set_cons_succ])
      refine wpAnyH_take (i := 23) (oi := { dst := some 31, op := Op.move (Operand.tmp 1), type := 3, pos := "ref.go:33", after := #[{ on := 21, ground := Ground.guard }], guard := some (21, false) }) (v := ?_) rfl (by kernel_rfl) (by kernel_rfl) (by kernel_rfl) (fun _ _ _ h => h) (Or.inl ⟨by rfl, ?_⟩) (by assumption) ?_
      rotate_left
      · intro w hSw
        (try dsimp only at hSw)
        first | (go_simp; done) | (go_simp; with_reducible rfl)
      (try simp only [Act.put, List.setIfInBounds_toArray, List.set_cons_zero, List.set_cons_succ])
      refine wpAnyH_take (i := 24) (oi := { dst := some 32, op := Op.fieldAddr 26 (Operand.tmp 3) 1, type := 0, pos := "ref.go:33", after := #[{ on := 21, ground := Ground.guard }], guard := some (21, false) }) (v := ?_) rfl (by kernel_rfl) (by kernel_rfl) (by kernel_rfl) (fun _ _ _ h => h) (Or.inl ⟨by rfl, ?_⟩) (by assumption) ?_
      rotate_left
      · intro w hSw
        (try dsimp only at hSw)
        first | (go_simp; done) | (go_simp; with_reducible rfl)
      (try simp only [Act.put, List.setIfInBounds_toArray, List.set_cons_zero, List.set_cons_succ])
      refine wpAnyH_take (i := 25) (oi := { dst := some 33, op := Op.indexAddr 24 (Operand.tmp 32) (Operand.tmp 31), type := 0, pos := "ref.go:33", after := #[{ on := 24, ground := Ground.data }, { on := 23, ground := Ground.data }, { on := 21, ground := Ground.guard }], guard := some (21, false) }) (v := ?_) rfl (by kernel_rfl) (by kernel_rfl) (by kernel_rfl) (fun _ _ _ h => h) (Or.inl ⟨by rfl, ?_⟩) (by assumption) ?_
      rotate_left
      · intro w hSw
        (try dsimp only at hSw)
        first | (go_simp; done) | (go_simp; with_reducible rfl)
      (try simp only [Act.put, List.setIfInBounds_toArray, List.set_cons_zero, List.set_cons_succ])
      refine wpAnyH_take (i := 26) (oi := { dst := some 34, op := Op.load 23 (Operand.tmp 33), type := 23, pos := "ref.go:33", after := #[{ on := 25, ground := Ground.data }, { on := 21, ground := Ground.guard }], guard := some (21, false) }) (v := ?_) rfl (by kernel_rfl) (by kernel_rfl) (by kernel_rfl) (fun _ _ _ h => h) (Or.inl ⟨by rfl, ?_⟩) (by assumption) ?_
      rotate_left
      · intro w hSw
        (try dsimp only at hSw)
        first | (go_simp; done) | (go_simp; with_reducible rfl)
      (try simp only [Act.put, List.setIfInBounds_toArray, List.set_cons_zero, List.set_cons_succ])
      refine wpAnyH_ready (rs := [27]) (by kernel_rfl) (by simp) ?_
      refine AllReadyH.cons (o := { dst := some 35, op := Op.call { callee := Callee.value (Operand.func 78), args := #[Operand.tmp 30, Operand.tmp 34], argTypes := #[23, 23] }, type := 4, pos := "ref.go:33", after := #[{ on := 22, ground := Ground.data }, { on := 26, ground := Ground.data }, { on := 21, ground := Ground.chain }, { on := 21, ground := Ground.guard }], guard := some (21, false) }) rfl (fun K hK => ?_) AllReadyH.nil
      go_simp
      refine (KN.out _).mono ?_
      rintro e wx ⟨rfl, jx⟩
      replace nc := nc.trans (jx.mono nc.size)
      clear jx
      refine hK.out _ _ (CS.out _ nc) (fun hHeld => ?_)
      clear hK K
      (try simp only [Act.put, List.setIfInBounds_toArray, List.set_cons_zero, List.set_cons_succ])
      refine wpAnyH_take (i := 28) (oi := { dst := some 36, op := Op.unOp UnOp.not 4 (Operand.tmp 35), type := 4, pos := "ref.go:33", after := #[{ on := 27, ground := Ground.data }, { on := 21, ground := Ground.guard }], guard := some (21, false) }) (v := ?_) rfl (by kernel_rfl) (by kernel_rfl) (by kernel_rfl) (fun _ _ _ h => h) (Or.inl ⟨by rfl, ?_⟩) (by assumption) ?_
      rotate_left
      · intro w hSw
        (try dsimp only at hSw)
        first | (go_simp; done) | (go_simp; with_reducible rfl)
      (try simp only [Act.put, List.setIfInBounds_toArray, List.set_cons_zero, List.set_cons_succ])
      refine wpAnyH_take (i := 29) (oi := { dst := some 37, op := Op.pick (Operand.tmp 29) (Operand.const (Value.bool true)) (Operand.tmp 36), type := 4, pos := "ref.go:33", after := #[{ on := 21, ground := Ground.data }, { on := 28, ground := Ground.data }], guard := none }) (v := ?_) rfl (by kernel_rfl) (by kernel_rfl) (by kernel_rfl) (fun _ _ _ h => h) (Or.inl ⟨by rfl, ?_⟩) (by assumption) ?_
      rotate_left
      · intro w hSw
        (try dsimp only at hSw)
        first | (go_simp; done) | (go_simp; with_reducible rfl)
      (try simp only [Act.put, List.setIfInBounds_toArray, List.set_cons_zero, List.set_cons_succ])
      refine wpAnyH_done (by kernel_rfl) ?_ _
      go_wp2_with fail
      go_meet
      exact ⟨by rw [HO.out]; rfl, nc⟩
  case rest =>
    obtain ⟨hcv, nd⟩ := hcut
    obtain ⟨ok, hok⟩ : ∃ ok, setOk T b (ec, ep, eg, et) = ok := ⟨_, rfl⟩
    rw [hok] at hcv
    subst hcv
    clear h0 h1 hv x0 x1 x2 x3 x4 x5 nc CE n0 bT
    obtain ⟨bR, L4, bT, bE⟩ := fin.out _ nd
    have hok2 : ok = true := by rw [← hok]; exact HF
    subst hok2
    · have HYES := Lib.hid hok
      simp only [Bool.not_true]
      simp only [setOk, Bool.and_eq_true, decide_eq_true_eq, Bool.not_eq_true', beq_eq_false_iff_ne] at hok
      have hver := (rgT_iff.1 hok.1.1.1.1.1).1
      have hv := hok.1.2
      have hwr := Lib.hid (show IntKind.i64.wrap (T 0 + 1) = T 0 + 1 from IntWalk.i64_in _ (by omega))
      obtain ⟨k, rfl⟩ : ∃ k : Nat, b = (k : Int) := ⟨b.toNat, by have := hok.1.1.1.2; omega⟩
      have hk : k < 16 := by have := hok.1.1.2; omega
      have hk1 : (k : Int) < 16 := by omega
      clear hok hver hv
      obtain ⟨q0, q1, q2, q3⟩ := ent_cells _ _ _ _ bE
      have q := rng_row bT k hk
      generalize rowT T k = u at *
      obtain ⟨u0, u1, u2, u3⟩ := u
      obtain ⟨y0, y1, y2, y3⟩ := ent_of_range _ _ _ _ q
      have f0 := nb_frozen bT (1 + k * 4)
      have f1 := nb_frozen bT (1 + k * 4 + 1)
      have f2 := nb_frozen bT (1 + k * 4 + 2)
      have f3 := nb_frozen bT (1 + k * 4 + 3)
      have bT5 : NB w.heap.size 26 65 (setR T k (ec, ep, eg, et)) ((((wc.setCell ⟨w.heap.size, 1 + k * 4, none⟩ (.int .i64 ec)).setCell ⟨w.heap.size, 1 + k * 4 + 1, none⟩ (.int .i64 ep)).setCell ⟨w.heap.size, 1 + k * 4 + 2, none⟩ (.int .i64 eg)).setCell ⟨w.heap.size, 1 + k * 4 + 3, none⟩ (.int .i64 et)) := nb_row bT k (ec, ep, eg, et)
      have bR5 : NB (w.heap.size + 2) 26 65 zeroT ((((wc.setCell ⟨w.heap.size, 1 + k * 4, none⟩ (.int .i64 ec)).setCell ⟨w.heap.size, 1 + k * 4 + 1, none⟩ (.int .i64 ep)).setCell ⟨w.heap.size, 1 + k * 4 + 2, none⟩ (.int .i64 eg)).setCell ⟨w.heap.size, 1 + k * 4 + 3, none⟩ (.int .i64 et)) := (nb_other (b := w.heap.size) (k := w.heap.size + 2) (by omega) [.int .i64 ec, .int .i64 ep, .int .i64 eg, .int .i64 et] (1 + k * 4) wc).trans bR
      have L5 : Below w.heap.size w ((((wc.setCell ⟨w.heap.size, 1 + k * 4, none⟩ (.int .i64 ec)).setCell ⟨w.heap.size, 1 + k * 4 + 1, none⟩ (.int .i64 ep)).setCell ⟨w.heap.size, 1 + k * 4 + 2, none⟩ (.int .i64 eg)).setCell ⟨w.heap.size, 1 + k * 4 + 3, none⟩ (.int .i64 et)) := below_setCells w.heap.size (Nat.le_refl _) [.int .i64 ec, .int .i64 ep, .int .i64 eg, .int .i64 et] (1 + k * 4) w _ L4
      have HT5 := Lib.hid bT5
      have HR5 := Lib.hid bR5
      have HL5 := Lib.hid L5
      clear bT bE bR L4 q bT5 bR5 L5 nd
      go_upto_region 4 with fail
      have bT5 := HT5.out
      have bR5 := HR5.out
      have L5 := HL5.out
      clear HT5 HR5 HL5 q0 q1 q2 q3 y0 y1 y2 y3 f0 f1 f2 f3
      generalize (((wc.setCell ⟨w.heap.size, 1 + k * 4, none⟩ (.int .i64 ec)).setCell ⟨w.heap.size, 1 + k * 4 + 1, none⟩ (.int .i64 ep)).setCell ⟨w.heap.size, 1 + k * 4 + 2, none⟩ (.int .i64 eg)).setCell ⟨w.heap.size, 1 + k * 4 + 3, none⟩ (.int .i64 et) = W5 at *
      have c0 := nb_cell bT5 (o := 0) (by omega)
      have g0 := nb_frozen bT5 0
      have e2 : setR T k (ec, ep, eg, et) 0 = T 0 := by
        unfold setR upd
        rw [if_neg (by omega), if_neg (by omega), if_neg (by omega), if_neg (by omega)]
      rw [e2] at c0
      have w0 := hwr.out
      have bT6 := nb_put bT5 0 (T 0 + 1)
      have bR6 := (Below.heap_setCell W5 ⟨w.heap.size, 0, none⟩ (.int .i64 (T 0 + 1)) (w.heap.size + 2) (by simp)).trans bR5
      have L6 := L5.setCell (p := ⟨w.heap.size, 0, none⟩) (Nat.le_refl _) (.int .i64 (T 0 + 1))
      have HT6 := Lib.hid bT6
      have HR6 := Lib.hid bR6
      have HL6 := Lib.hid L6
      clear bT5 bR5 L5 bT6 bR6 L6 e2
      go_upto_region 5 with fail
      have bT6 := HT6.out
      have bR6 := HR6.out
      have L6 := HL6.out
      clear HT6 HR6 HL6 c0 g0 w0
      generalize W5.setCell ⟨w.heap.size, 0, none⟩ (.int .i64 (T 0 + 1)) = W6 at *
      have HV := Lib.hid (show setV T k (ec, ep, eg, et) = upd (setR T k (ec, ep, eg, et)) 0 (T 0 + 1) by unfold setV; rw [HYES.out]; rfl)
      have HN := Lib.hid (show setN T k (ec, ep, eg, et) = 0 by unfold setN; rw [HYES.out]; rfl)
      have l6 := ld_tab bT6
      have s6 := st_tab bR6 (upd (setR T k (ec, ep, eg, et)) 0 (T 0 + 1))
      have HS := Lib.hid (nb_full bR6 (upd (setR T k (ec, ep, eg, et)) 0 (T 0 + 1)))
      have HX := Lib.hid (below_setCells (w.heap.size + 2) (by omega) (numL 65 (upd (setR T k (ec, ep, eg, et)) 0 (T 0 + 1))) 0 w _ L6)
      clear bT6 bR6 L6
      go_wp2
      exact bodyPost_ret (results_agg_tmp rfl _ _ (w.heap.size + 2) _ _ (0, 0) _ rfl HS.out Try.undT rfl (by rw [List.size_toArray, numL_len]; exact Try.sizT)) rfl ⟨by rw [HV.out, HN.out]; rfl, HX.out⟩
end Go.Proofs.Ythgoopdekllanaa

/- A row set: the document's, in all ways. -/
namespace Go.Proofs.Ythgoopdekllanaa
open Go.RowKit Go.Shelf
open SumM

theorem r10Set_any (T : Nat → Int) (b : Int) (ec ep eg et : Int) (w : World) : Calls Try.prog 61 #[tabV T, .int .i64 b, .agg #[.int .i64 ec, .int .i64 ep, .int .i64 eg, .int .i64 et]] w fun e w' => e = .returned (.tuple #[tabV (setV T b (ec, ep, eg, et)), .int .i64 (setN T b (ec, ep, eg, et))]) ∧ Below w.heap.size w w' := by
  by_cases H : rgT T = false
  · exact r10Set_w1 T b ec ep eg et (by unfold setOk; rw [H]; rfl) H w
  have H : rgT T = true := by simpa using H
  by_cases H' : rgt ec ep eg et = false
  · exact r10Set_w2 T b ec ep eg et (by unfold setOk; rw [show rgE (ec, ep, eg, et) = false from H']; simp) H H' w
  have H' : rgt ec ep eg et = true := by simpa using H'
  by_cases h0 : b < 0
  · exact r10Set_w3 T b ec ep eg et (by unfold setOk; rw [show decide (0 ≤ b) = false by simpa using h0]; simp) H H' h0 w
  by_cases h1 : 16 ≤ b
  · exact r10Set_w4 T b ec ep eg et (by unfold setOk; rw [show decide (b < 16) = false by simpa using h1]; simp) H H' h0 h1 w
  by_cases hv : (T 0 == 1099511627776) = true
  · exact r10Set_w5 T b ec ep eg et (by unfold setOk; rw [hv]; simp) H H' h0 h1 hv w
  have hv : (T 0 == 1099511627776) = false := by simpa using hv
  by_cases HF : setOk T b (ec, ep, eg, et) = false
  · exact r10Set_w6 T b ec ep eg et HF H H' h0 h1 hv w
  · exact r10Set_w7 T b ec ep eg et (by simpa using HF) H H' h0 h1 hv w
end Go.Proofs.Ythgoopdekllanaa
