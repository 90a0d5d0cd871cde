/- A delta: package sheet's Delta. -/
import Derived.Test.YthgoopdekllanaaShH
import Derived.Test.YthgoopdekllanaaShB
namespace Go.Proofs.Ythgoopdekllanaa
open Go.RowKit Go.Shelf
open SumM

attribute [local go_sem] Oper.semAt_some
attribute [local go_sem ↓] nm_ldT nm_ldA nm_stT

/-- A delta. -/
def dlS (T U : Nat → Int) : ShRes := if (rgT T && rgT U && decide (T 0 < U 0)) = true then (T 0, U 0, chS T U, 0) else (0, 0, [], 2)
set_option maxRecDepth 100000 in
set_option maxHeartbeats 4000000 in
theorem sDelta_any (T U : Nat → Int) (w : World) : Calls Try.prog 13 #[tabV T, tabV U] w (ShRet (dlS T U) w) := by
  have bT := blkN (blkN (heap_alloc_new w (.cells (numL 65 T).toArray 26)) (.cells (numL 65 U).toArray 26)) (.cells #[.int .i64 0, .int .i64 0, .slice none 0 0] 29)
  have bU := blkN (newN (w.alloc (.cells (numL 65 T).toArray 26)) (.cells (numL 65 U).toArray 26) (w.heap.size + 1) (by simp)) (.cells #[.int .i64 0, .int .i64 0, .slice none 0 0] 29)
  have bR := newN ((w.alloc (.cells (numL 65 T).toArray 26)).alloc (.cells (numL 65 U).toArray 26)) (.cells #[.int .i64 0, .int .i64 0, .slice none 0 0] 29) (w.heap.size + 2) (by simp)
  have L0 := (((Below.refl w.heap.size w).alloc (Nat.le_refl _) (.cells (numL 65 T).toArray 26)).alloc (by simp) (.cells (numL 65 U).toArray 26)).alloc (by simp; omega) (.cells #[.int .i64 0, .int .i64 0, .slice none 0 0] 29)
  go_enter Try.func13, Try.ntmps13
  go_wp2
  generalize ((w.alloc (.cells (numL 65 T).toArray 26)).alloc (.cells (numL 65 U).toArray 26)).alloc (.cells #[.int .i64 0, .int .i64 0, .slice none 0 0] 29) = W0 at *
  refine wp_scope_jumps 0 (fun a' w' => Below w.heap.size w w' ∧ dlS T U = (0, 0, [], 2) ∧ w'.heap[w.heap.size + 2]? = some (.cells #[.int .i64 0, .int .i64 0, .slice none 0 0] 29 (0, 0)) ∧ ∃ (u0 u1 u5 u6 u7 u8 u9 u10 u11 u12 u13 u14 u15 u16 u17 u18 u19 u20 u21 u22 u23 u24 u25 u26 u27 u28 u29 u30 : Value), a' = { tmps := #[u0, u1, .pointer (some ⟨w.heap.size, 0, none⟩), .pointer (some ⟨w.heap.size + 1, 0, none⟩), .pointer (some ⟨w.heap.size + 2, 0, none⟩), u5, u6, u7, u8, u9, u10, u11, u12, u13, u14, u15, u16, u17, u18, u19, u20, u21, u22, u23, u24, u25, u26, u27, u28, u29, u30], defers := [] }) (fun _ _ => 0) rfl ?first ?pass
  case pass =>
    rintro a' w' ⟨LL, hf, hR, u0, u1, u5, u6, u7, u8, u9, u10, u11, u12, u13, u14, u15, u16, u17, u18, u19, u20, u21, u22, u23, u24, u25, u26, u27, u28, u29, u30, rfl⟩
    have HR := Lib.hid hR
    have HE := Lib.hid (And.intro LL hf)
    obtain ⟨y0, y1, y2⟩ := sh_cells _ _ _ _ _ hR
    have f0 := sh_frozen hR 0
    have f1 := sh_frozen hR 1
    have f3 := sh_frozen hR 2
    clear LL hf hR bT bU bR L0
    go_wp2
    simp only [Exit.jump]
    refine bodyPost_ret (results_sh2 rfl _ _ (w.heap.size + 2) _ (0, 0) rfl (full_setCells HR.out [.int .i64 0, .int .i64 0, .slice none 0 0] rfl) rfl) rfl ?_
    rw [HE.out.2]
    exact ⟨_, rfl, World.ownsRow_nil _ _ _ _, below_setCells (w.heap.size + 2) (by omega) [.int .i64 0, .int .i64 0, .slice none 0 0] 0 w _ HE.out.1⟩
  case first =>
    have l0 := ld_tab bT
    obtain ⟨g, hg⟩ : ∃ g, rgT T = g := ⟨_, rfl⟩
    obtain ⟨g', hg'⟩ : ∃ g', rgT U = g' := ⟨_, rfl⟩
    obtain ⟨v, hv⟩ : ∃ v, decide (U 0 ≤ T 0) = v := ⟨_, rfl⟩
    have HF := Lib.hid (show dlS T U = if (g && g' && !v) = true then (T 0, U 0, chS T U, 0) else (0, 0, [], 2) by unfold dlS; rw [hg, hg', ltD, hv])
    have KR := Lib.hid (hg ▸ callsIn_wide.1 (right_in 4 (by omega) T W0))
    go_wp2_with fail
    refine KR.out.mono ?_
    rintro e w1 ⟨rfl, m1⟩
    replace bT := bb bT m1
    replace bU := bb bU m1
    replace bR := bb bR m1
    replace L0 := L0.trans (m1.mono L0.size)
    clear l0 m1 KR hg
    cases g
    · have HE := Lib.hid (And.intro L0 (And.intro HF.out bR))
      clear L0 bT bR bU
      go_wp2
      go_step3
      exact ⟨rfl, HE.out.1, by rw [HE.out.2.1]; rfl, HE.out.2.2, _, _, _, _, _, _, _, _, _, _, _, _, _, _, _, _, _, _, _, _, _, _, _, _, _, _, _, _, rfl⟩
    have l0 := ld_tab bU
    have KR := Lib.hid (hg' ▸ callsIn_wide.1 (right_in 4 (by omega) U w1))
    go_wp2_with fail
    refine KR.out.mono ?_
    rintro e w2 ⟨rfl, m2⟩
    replace bT := bb bT m2
    replace bU := bb bU m2
    replace bR := bb bR m2
    replace L0 := L0.trans (m2.mono L0.size)
    have c0 := nb_cell bT (o := 0) (by omega)
    have c1 := nb_cell bU (o := 0) (by omega)
    clear l0 m2 KR hg'
    have HE := Lib.hid (And.intro L0 (And.intro HF.out bR))
    cases g'
    · clear L0 bT bR bU
      go_wp2
      go_step3
      exact ⟨rfl, HE.out.1, by rw [HE.out.2.1]; rfl, HE.out.2.2, _, _, _, _, _, _, _, _, _, _, _, _, _, _, _, _, _, _, _, _, _, _, _, _, _, _, _, _, rfl⟩
    cases v
    rotate_left
    · clear L0 bT bR bU
      go_wp2
      go_step3
      exact ⟨rfl, HE.out.1, by rw [HE.out.2.1]; rfl, HE.out.2.2, _, _, _, _, _, _, _, _, _, _, _, _, _, _, _, _, _, _, _, _, _, _, _, _, _, _, _, _, rfl⟩
    have bRz : w.heap.size + 2 < w2.heap.size := nb_lt2 bR
    go_upto_region 2 with fail
    have nc := (Below.refl w2.heap.size w2).drew
    have CT := Lib.hid (fun W (m : Below w2.heap.size w2 W) => And.intro (bb bT m) (bb bU m))
    have CR := Lib.hid (fun W (m : Below w2.heap.size w2 W) => And.intro (bb bR m) (L0.trans (m.mono L0.size)))
    have CS := Lib.hid (fun W (m : Below w2.heap.size w2 W) => show ((ldS 26 (.pointer (some ⟨w.heap.size, 0, none⟩))).run Try.prog W = .ok (tabV T) W ∧ (ldS 26 (.pointer (some ⟨w.heap.size + 1, 0, none⟩))).run Try.prog W = .ok (tabV U) W) ∧ W.cell? ⟨w.heap.size, 0, none⟩ = some (.int .i64 (T 0)) ∧ W.cell? ⟨w.heap.size + 1, 0, none⟩ = some (.int .i64 (U 0)) from ⟨⟨ld_tab (bb bT m), ld_tab (bb bU m)⟩, nb_cell (bb bT m) (by omega), nb_cell (bb bU m) (by omega)⟩)
    clear L0 bT bU bR c0 c1
    refine wp_region_held_drew (S := fun W => ((ldS 26 (.pointer (some ⟨w.heap.size, 0, none⟩))).run Try.prog W = .ok (tabV T) W ∧ (ldS 26 (.pointer (some ⟨w.heap.size + 1, 0, none⟩))).run Try.prog W = .ok (tabV U) W) ∧ W.cell? ⟨w.heap.size, 0, none⟩ = some (.int .i64 (T 0)) ∧ W.cell? ⟨w.heap.size + 1, 0, none⟩ = some (.int .i64 (U 0))) (by kernel_rfl) (CS.out _ nc) (fun hHeld => ?_)
    refine wpAnyH_take (i := 0) (oi := { dst := some 21, op := Op.fieldAddr 26 (Operand.tmp 2) 0, type := 0, pos := "sheet.go:66", after := #[], guard := none }) (v := ?_) rfl (by kernel_rfl) (by kernel_rfl) (by kernel_rfl) (fun _ _ _ h => h) (Or.inl ⟨by rfl, ?_⟩) (by assumption) ?_
    rotate_left
    · intro w hSw
      (try dsimp only at hSw)
      first | (go_simp; done) | (go_simp; with_reducible rfl)
    (try simp only [Act.put, List.setIfInBounds_toArray, List.set_cons_zero, List.set_cons_succ])
    refine wpAnyH_take (i := 1) (oi := { dst := some 22, op := Op.load 3 (Operand.tmp 21), type := 3, pos := "sheet.go:66", after := #[{ on := 0, ground := Ground.data }], guard := none }) (v := ?_) rfl (by kernel_rfl) (by kernel_rfl) (by kernel_rfl) (fun _ _ _ h => h) (Or.inl ⟨by rfl, ?_⟩) (by assumption) ?_
    rotate_left
    · intro w hSw
      (try dsimp only at hSw)
      first | (go_simp; done) | (go_simp; with_reducible rfl)
    (try simp only [Act.put, List.setIfInBounds_toArray, List.set_cons_zero, List.set_cons_succ])
    refine wpAnyH_take (i := 2) (oi := { dst := some 23, op := Op.fieldAddr 26 (Operand.tmp 3) 0, type := 0, pos := "sheet.go:66", after := #[], guard := none }) (v := ?_) rfl (by kernel_rfl) (by kernel_rfl) (by kernel_rfl) (fun _ _ _ h => h) (Or.inl ⟨by rfl, ?_⟩) (by assumption) ?_
    rotate_left
    · intro w hSw
      (try dsimp only at hSw)
      first | (go_simp; done) | (go_simp; with_reducible rfl)
    (try simp only [Act.put, List.setIfInBounds_toArray, List.set_cons_zero, List.set_cons_succ])
    refine wpAnyH_take (i := 3) (oi := { dst := some 24, op := Op.load 3 (Operand.tmp 23), type := 3, pos := "sheet.go:66", after := #[{ on := 2, ground := Ground.data }], guard := none }) (v := ?_) rfl (by kernel_rfl) (by kernel_rfl) (by kernel_rfl) (fun _ _ _ h => h) (Or.inl ⟨by rfl, ?_⟩) (by assumption) ?_
    rotate_left
    · intro w hSw
      (try dsimp only at hSw)
      first | (go_simp; done) | (go_simp; with_reducible rfl)
    (try simp only [Act.put, List.setIfInBounds_toArray, List.set_cons_zero, List.set_cons_succ])
    refine wpAnyH_take (i := 4) (oi := { dst := some 25, op := Op.load 26 (Operand.tmp 2), type := 26, pos := "sheet.go:66", after := #[], guard := none }) (v := ?_) rfl (by kernel_rfl) (by kernel_rfl) (by kernel_rfl) (fun _ _ _ h => h) (Or.inl ⟨by rfl, ?_⟩) (by assumption) ?_
    rotate_left
    · intro w hSw
      (try dsimp only at hSw)
      first | (go_simp; done) | (go_simp; with_reducible rfl)
    (try simp only [Act.put, List.setIfInBounds_toArray, List.set_cons_zero, List.set_cons_succ])
    refine wpAnyH_take (i := 5) (oi := { dst := some 26, op := Op.load 26 (Operand.tmp 3), type := 26, pos := "sheet.go:66", after := #[], guard := none }) (v := ?_) rfl (by kernel_rfl) (by kernel_rfl) (by kernel_rfl) (fun _ _ _ h => h) (Or.inl ⟨by rfl, ?_⟩) (by assumption) ?_
    rotate_left
    · intro w hSw
      (try dsimp only at hSw)
      first | (go_simp; done) | (go_simp; with_reducible rfl)
    (try simp only [Act.put, List.setIfInBounds_toArray, List.set_cons_zero, List.set_cons_succ])
    refine wpAnyH_ready (rs := [6]) (by kernel_rfl) (by simp) ?_
    refine AllReadyH.cons (o := { dst := some 27, op := Op.call { callee := Callee.value (Operand.func 46), args := #[Operand.tmp 25, Operand.tmp 26], argTypes := #[26, 26] }, type := 72, pos := "sheet.go:66", after := #[{ on := 4, ground := Ground.data }, { on := 5, ground := Ground.data }], guard := none }) rfl (fun K hK => ?_) AllReadyH.nil
    go_simp
    refine (callsIn_wide.1 (schanged_in 1 T U _)).mono ?_
    rintro e wx ⟨rfl, rfl⟩
    have jx := ((Below.refl w2.drew.heap.size w2.drew).alloc (Nat.le_refl _) (.cells (numL 65 T).toArray 26)).alloc (by simp) (.cells (numL 65 U).toArray 26)
    have bV := blkN (heap_alloc_new w2.drew (.cells (numL 65 T).toArray 26)) (.cells (numL 65 U).toArray 26)
    have bX := newN (w2.drew.alloc (.cells (numL 65 T).toArray 26)) (.cells (numL 65 U).toArray 26) (w2.drew.heap.size + 1) (by simp)
    replace nc := nc.trans (jx.mono nc.size)
    clear jx
    refine hK.out _ _ (CS.out _ nc) (fun hHeld => ?_)
    clear hK K
    (try simp only [Act.put, List.setIfInBounds_toArray, List.set_cons_zero, List.set_cons_succ])
    refine wpAnyH_ready (rs := [7]) (by kernel_rfl) (by simp) ?_
    refine AllReadyH.cons (o := { dst := some 28, op := Op.call { callee := Callee.value (Operand.func 43), args := #[Operand.tmp 27], argTypes := #[72] }, type := 27, pos := "sheet.go:66", after := #[{ on := 6, ground := Ground.data }, { on := 6, ground := Ground.chain }], guard := none }) rfl (fun K hK => ?_) AllReadyH.nil
    go_simp
    refine (collectR_any _ _ (chS T U) (by have := chS_le T U; omega) _ (enters_of Try.func66 (by kernel_rfl) rfl) (fun W m => schanged_ok 9 (by omega) _ _ T U _ (by simp) W m.size (bb bV m) (bb bX m))).mono ?_
    rintro e w3 ⟨v', rfl, O2, jx⟩
    replace nc := nc.trans (jx.mono nc.size)
    clear jx
    have O3 := ownS_base O2 (b' := w2.heap.size) (by simp; omega)
    have hR := (CR.out _ nc).1
    obtain ⟨A, c, rfl, -, -, -⟩ := ownS_slice O3
    obtain ⟨y0, y1, y2⟩ := sh_cells _ _ _ _ _ hR
    have f0 := sh_frozen hR 0
    have f1 := sh_frozen hR 1
    have f3 := sh_frozen hR 2
    have HT6 := Lib.hid (show NB w.heap.size 26 65 T (w3.setCells (w.heap.size + 2) 0 [.int .i64 (T 0), .int .i64 (U 0), .slice A (chS T U).length c]) from (nb_other (by omega) _ _ _).trans (CT.out _ nc).1)
    have HU6 := Lib.hid (show NB (w.heap.size + 1) 26 65 U (w3.setCells (w.heap.size + 2) 0 [.int .i64 (T 0), .int .i64 (U 0), .slice A (chS T U).length c]) from (nb_other (by omega) _ _ _).trans (CT.out _ nc).2)
    have HL6 := Lib.hid (below_setCells (w.heap.size + 2) (by omega) [.int .i64 (T 0), .int .i64 (U 0), .slice A (chS T U).length c] 0 w _ (CR.out _ nc).2)
    have HO6 := Lib.hid (ownS_apart (by decide) [.int .i64 (T 0), .int .i64 (U 0), .slice A (chS T U).length c] 0 _ _ O3 hR)
    have HR6 := Lib.hid (full_setCells hR [.int .i64 (T 0), .int .i64 (U 0), .slice A (chS T U).length c] rfl)
    clear O2 O3 hR bV bX
    refine hK.out _ _ (CS.out _ nc) (fun hHeld => ?_)
    clear hK K
    (try simp only [Act.put, List.setIfInBounds_toArray, List.set_cons_zero, List.set_cons_succ])
    refine wpAnyH_take (i := 8) (oi := { dst := some 29, op := Op.build 29 #[(0, Operand.tmp 22), (1, Operand.tmp 24), (2, Operand.tmp 28)], type := 29, pos := "sheet.go:66", after := #[{ on := 1, ground := Ground.data }, { on := 3, ground := Ground.data }, { on := 7, ground := Ground.data }], guard := none }) (v := ?_) rfl (by kernel_rfl) (by kernel_rfl) (by kernel_rfl) (fun _ _ _ h => h) (Or.inl ⟨by rfl, ?_⟩) (by assumption) ?_
    rotate_left
    · intro w hSw
      (try dsimp only at hSw)
      first | (go_simp; done) | (go_simp; with_reducible rfl)
    (try simp only [Act.put, List.setIfInBounds_toArray, List.set_cons_zero, List.set_cons_succ])
    refine wpAnyH_ready (rs := [9]) (by kernel_rfl) (by simp) ?_
    refine AllReadyH.cons (o := { dst := none, op := Op.store 29 (Operand.tmp 4) (Operand.tmp 29), type := 0, pos := "sheet.go:66", after := #[{ on := 8, ground := Ground.data }, { on := 7, ground := Ground.chain }, { on := 0, ground := Ground.phase }, { on := 1, ground := Ground.phase }, { on := 2, ground := Ground.phase }, { on := 3, ground := Ground.phase }, { on := 4, ground := Ground.phase }, { on := 5, ground := Ground.phase }, { on := 6, ground := Ground.phase }, { on := 7, ground := Ground.phase }, { on := 8, ground := Ground.phase }], guard := none }) rfl (fun K hK => ?_) AllReadyH.nil
    go_simp
    refine hK.out _ _ ⟨⟨ld_tab HT6.out, ld_tab HU6.out⟩, nb_cell HT6.out (by omega), nb_cell HU6.out (by omega)⟩ (fun hHeld => ?_)
    clear hK K
    (try simp only [Act.put, List.setIfInBounds_toArray, List.set_cons_zero, List.set_cons_succ])
    refine wpAnyH_take (i := 10) (oi := { dst := some 5, op := Op.assign (Operand.const (Value.int IntKind.i64 0)), type := 33, pos := "sheet.go:66", after := #[{ on := 9, ground := Ground.chain }, { on := 0, ground := Ground.phase }, { on := 1, ground := Ground.phase }, { on := 2, ground := Ground.phase }, { on := 3, ground := Ground.phase }, { on := 4, ground := Ground.phase }, { on := 5, ground := Ground.phase }, { on := 6, ground := Ground.phase }, { on := 7, ground := Ground.phase }, { on := 8, ground := Ground.phase }, { on := 9, ground := Ground.phase }], guard := none }) (v := ?_) rfl (by kernel_rfl) (by kernel_rfl) (by kernel_rfl) (fun _ _ _ h => h) (Or.inl ⟨by rfl, ?_⟩) (by assumption) ?_
    rotate_left
    · intro w hSw
      (try dsimp only at hSw)
      first | (go_simp; done) | (go_simp; with_reducible rfl)
    (try simp only [Act.put, List.setIfInBounds_toArray, List.set_cons_zero, List.set_cons_succ])
    refine wpAnyH_done (by kernel_rfl) ?_ _
    clear y0 y1 y2 f0 f1 f3
    go_wp2
    simp only [Exit.jump]
    refine bodyPost_ret (results_sh2 rfl _ _ (w.heap.size + 2) _ (0, 0) rfl HR6.out rfl) rfl ?_
    rw [HF.out]
    exact ⟨_, rfl, ownS_base HO6.out (by omega), HL6.out⟩



end Go.Proofs.Ythgoopdekllanaa
