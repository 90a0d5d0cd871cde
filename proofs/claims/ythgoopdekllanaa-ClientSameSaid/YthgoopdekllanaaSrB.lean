/- Two tables' delta: the document's. -/
import Derived.Test.YthgoopdekllanaaSrA
namespace Go.Proofs.Ythgoopdekllanaa
open Go.RowKit Go.Shelf
open SumM

attribute [local go_sem] Oper.semAt_some guard_undef
attribute [local go_sem ↓] nm_ldT nm_ldA nm_stT

/-- The rows that are not the same, of the buckets below k. -/
def chK (T U : Nat → Int) (k : Nat) : List SR := (selI (chP T U) (List.range k)).map fun b => (b, rowT U b.toNat)
theorem chK_yes {T U : Nat → Int} {k : Nat} (h : chP T U k = true) : chK T U k ++ [((k : Int), rowT U k)] = chK T U (k + 1) := by
  unfold chK
  rw [selI_yes h]
  simp
theorem chK_no {T U : Nat → Int} {k : Nat} (h : chP T U k = false) : chK T U k = chK T U (k + 1) := by
  unfold chK
  rw [selI_no h]
theorem chK_len (T U : Nat → Int) (k : Nat) : (chK T U k).length ≤ k := by
  unfold chK
  rw [List.length_map]
  exact selI_len _ k

set_option maxRecDepth 100000 in
set_option maxHeartbeats 4000000 in
theorem r11Delta_any (T U : Nat → Int) (w : World) : Calls Try.prog 14 #[tabV T, tabV U] w (ShRet (dlS T U) w) := by
  obtain ⟨i0, hi, hz0, hz1, hz2⟩ := info_parts Try.infoRow
  have bT := blkN (blkN (heap_alloc_new w (.cells (numL 65 T).toArray 26)) (.cells (numL 65 U).toArray 26)) (.cells #[.int .i64 0, .int .i64 0, .slice none 0 0] 29)
  have bU := blkN (newN (w.alloc (.cells (numL 65 T).toArray 26)) (.cells (numL 65 U).toArray 26) (w.heap.size + 1) (by simp)) (.cells #[.int .i64 0, .int .i64 0, .slice none 0 0] 29)
  have bR := newN ((w.alloc (.cells (numL 65 T).toArray 26)).alloc (.cells (numL 65 U).toArray 26)) (.cells #[.int .i64 0, .int .i64 0, .slice none 0 0] 29) (w.heap.size + 2) (by simp)
  have L0 := (((Below.refl w.heap.size w).alloc (Nat.le_refl _) (.cells (numL 65 T).toArray 26)).alloc (by simp) (.cells (numL 65 U).toArray 26)).alloc (by simp; omega) (.cells #[.int .i64 0, .int .i64 0, .slice none 0 0] 29)
  go_enter Try.func14, Try.ntmps14
  go_upto_region 1 with fail
  generalize ((w.alloc (.cells (numL 65 T).toArray 26)).alloc (.cells (numL 65 U).toArray 26)).alloc (.cells #[.int .i64 0, .int .i64 0, .slice none 0 0] 29) = W0 at *
  have l0 := ld_tab bT
  obtain ⟨g, hg⟩ : ∃ g, rgT T = g := ⟨_, rfl⟩
  obtain ⟨g', hg'⟩ : ∃ g', rgT U = g' := ⟨_, rfl⟩
  obtain ⟨v, hv⟩ : ∃ v, decide (U 0 ≤ T 0) = v := ⟨_, rfl⟩
  have HF := Lib.hid (show dlS T U = if (g && g' && !v) = true then (T 0, U 0, chS T U, 0) else (0, 0, [], 2) by unfold dlS; rw [hg, hg', ltD, hv])
  have KR := Lib.hid (hg ▸ r10Right_any T W0)
  go_wp2_with fail
  refine KR.out.mono ?_
  rintro e w1 ⟨rfl, m1⟩
  replace bT := bb bT m1
  replace bU := bb bU m1
  replace bR := bb bR m1
  replace L0 := L0.trans (m1.mono L0.size)
  clear l0 m1 KR hg
  cases g
  · obtain ⟨y0, y1, y2⟩ := sh_cells _ _ _ _ _ bR
    have f0 := sh_frozen bR 0
    have f1 := sh_frozen bR 1
    have f3 := sh_frozen bR 2
    have HR := Lib.hid bR
    have HL := Lib.hid L0
    clear L0 bT bR bU
    go_wp2
    refine bodyPost_ret (results_sh2 rfl _ _ (w.heap.size + 2) _ (0, 0) rfl (full_setCells HR.out [.int .i64 0, .int .i64 0, .slice none 0 0] rfl) rfl) rfl ?_
    rw [HF.out]
    exact ⟨_, rfl, World.ownsRow_nil _ _ _ _, below_setCells (w.heap.size + 2) (by omega) [.int .i64 0, .int .i64 0, .slice none 0 0] 0 w _ HL.out⟩
  have l0 := ld_tab bU
  have KR := Lib.hid (hg' ▸ r10Right_any U w1)
  go_wp2_with fail
  refine KR.out.mono ?_
  rintro e w2 ⟨rfl, m2⟩
  replace bT := bb bT m2
  replace bU := bb bU m2
  replace bR := bb bR m2
  replace L0 := L0.trans (m2.mono L0.size)
  have c0 := nb_cell bT (o := 0) (by omega)
  have c1 := nb_cell bU (o := 0) (by omega)
  clear l0 m2 KR hg'
  by_cases hgv : (g' && !v) = false
  · obtain ⟨y0, y1, y2⟩ := sh_cells _ _ _ _ _ bR
    have f0 := sh_frozen bR 0
    have f1 := sh_frozen bR 1
    have f3 := sh_frozen bR 2
    have HR := Lib.hid bR
    have HL := Lib.hid L0
    have HZ := Lib.hid (show dlS T U = (0, 0, [], 2) by rw [HF.out, Bool.true_and, hgv]; rfl)
    clear L0 bT bR bU HF
    cases g'
    · clear hgv
      go_wp2
      refine bodyPost_ret (results_sh2 rfl _ _ (w.heap.size + 2) _ (0, 0) rfl (full_setCells HR.out [.int .i64 0, .int .i64 0, .slice none 0 0] rfl) rfl) rfl ?_
      rw [HZ.out]
      exact ⟨_, rfl, World.ownsRow_nil _ _ _ _, below_setCells (w.heap.size + 2) (by omega) [.int .i64 0, .int .i64 0, .slice none 0 0] 0 w _ HL.out⟩
    · obtain rfl : v = true := by cases v <;> simp_all
      clear hgv
      go_wp2
      refine bodyPost_ret (results_sh2 rfl _ _ (w.heap.size + 2) _ (0, 0) rfl (full_setCells HR.out [.int .i64 0, .int .i64 0, .slice none 0 0] rfl) rfl) rfl ?_
      rw [HZ.out]
      exact ⟨_, rfl, World.ownsRow_nil _ _ _ _, below_setCells (w.heap.size + 2) (by omega) [.int .i64 0, .int .i64 0, .slice none 0 0] 0 w _ HL.out⟩
  obtain ⟨rfl, rfl⟩ : g' = true ∧ v = false := by cases g' <;> cases v <;> simp_all
  clear hgv
  replace HF := Lib.hid (show dlS T U = (T 0, U 0, chS T U, 0) from HF.out)
  have hd := heap_alloc_new w2 (.cells #[.int .i64 0, .int .i64 0, .slice none 0 0] 29)
  obtain ⟨y0, y1, y2⟩ := sh_cells _ _ _ _ _ hd
  have f0 := sh_frozen hd 0
  have f1 := sh_frozen hd 1
  have f3 := sh_frozen hd 2
  have hm : w.heap.size + 2 < w2.heap.size := nb_lt2 bR
  have HI := Lib.hid (show OfI [(w.heap.size, (numL 65 T).toArray, 26), (w.heap.size + 1, (numL 65 U).toArray, 26), (w.heap.size + 2, #[.int .i64 0, .int .i64 0, .slice none 0 0], 29)] (T 0) (U 0) w.heap.size w2.heap.size w (.slice none 0 0) (chK T U 0) (w2.alloc (.cells #[.int .i64 (T 0), .int .i64 (U 0), .slice none 0 0] 29)) from
    ⟨by omega, L0.alloc L0.size _, (fun p hp => by
      rcases List.mem_cons.1 hp with rfl | hp
      · exact blkN bT _
      rcases List.mem_cons.1 hp with rfl | hp
      · exact blkN bU _
      · rw [List.mem_singleton.1 hp]
        exact blkN bR _), heap_alloc_new w2 _, World.ownsRow_nil _ _ _ _⟩)
  clear hd L0 bT bR bU
  go_wp2
  clear y0 y1 y2 f0 f1 f3 c0 c1
  have HM := Lib.hid hm
  clear hm
  generalize w2.heap.size = m at *
  obtain ⟨L, hL⟩ : ∃ L : List (Nat × Array Value × TypeId), L = [(w.heap.size, (numL 65 T).toArray, 26), (w.heap.size + 1, (numL 65 U).toArray, 26), (w.heap.size + 2, #[.int .i64 0, .int .i64 0, .slice none 0 0], 29)] := ⟨_, rfl⟩
  rw [← hL] at HI
  have HLT := Lib.hid (show (w.heap.size, (numL 65 T).toArray, 26) ∈ L by rw [hL]; simp)
  have HLU := Lib.hid (show (w.heap.size + 1, (numL 65 U).toArray, 26) ∈ L by rw [hL]; simp)
  have HLR := Lib.hid (show (w.heap.size + 2, #[.int .i64 0, .int .i64 0, .slice none 0 0], 29) ∈ L by rw [hL]; simp)
  have HLL := Lib.hid (show ∀ p ∈ L, p.1 ≠ m ∧ p.2.2 ∈ [26, 29] by
    have := HM.out
    rw [hL]
    intro p hp
    rcases List.mem_cons.1 hp with rfl | hp
    · exact ⟨by simp; omega, by simp⟩
    rcases List.mem_cons.1 hp with rfl | hp
    · exact ⟨by simp; omega, by simp⟩
    · rw [List.mem_singleton.1 hp]
      exact ⟨by simp; omega, by simp⟩)
  clear hL
  go_loopw [7] (fun i wr => ∃ k : Nat, k ≤ 16 ∧ i = .int .i64 (k : Nat) ∧ ∃ v, OfI L (T 0) (U 0) w.heap.size m w v (chK T U k) wr) (fun i _ => 16 - (intOf i).toNat)
  case atStart => exact ⟨0, by omega, rfl, _, HI.out⟩
  case round =>
    obtain ⟨k, hk, rfl, v, hI⟩ := hrel
    clear HI
    by_cases hlt : k < 16
    · have hk1 : (k : Int) < 16 := by omega
      have hle := chK_len T U k
      have HQT := Lib.hid (fun W (h : NB w.heap.size 26 65 T W) => rng_row h k hlt)
      have HQ := Lib.hid (fun W (h : NB (w.heap.size + 1) 26 65 U W) => rng_row h k hlt)
      have hp := fun u0 u1 u2 u3 v0 v1 v2 v3 (h : rowT T k = (u0, u1, u2, u3)) (h' : rowT U k = (v0, v1, v2, v3)) => chP_ne h h'
      have HY := Lib.hid (fun h : chP T U k = true => chK_yes h)
      have HN := Lib.hid (fun h : chP T U k = false => chK_no h)
      generalize rowT T k = t at *
      generalize rowT U k = u at *
      obtain ⟨x0, x1, x2, x3⟩ := t
      obtain ⟨u0, u1, u2, u3⟩ := u
      have hp := hp _ _ _ _ _ _ _ _ rfl rfl
      have hne := fun W => run_neE x0 x1 x2 x3 u0 u1 u2 u3 W
      rw [← hp] at hne
      clear hp
      generalize chP T U k = p at *
      obtain ⟨n, hn⟩ : ∃ n, (chK T U k).length = n := ⟨_, rfl⟩
      rw [hn] at hle
      generalize chK T U k = rs at *
      obtain ⟨q0, q1, q2, q3⟩ := ent_of_range _ _ _ _ (HQT.out wr (hI.st _ HLT.out))
      obtain ⟨z0, z1, z2, z3⟩ := ent_of_range _ _ _ _ (HQ.out wr (hI.st _ HLU.out))
      have HLE := Lib.hid (And.intro hn hle)
      have HI := Lib.hid hI
      clear hn hle hI
      go_upto_region 7 with fail
      go_quiet (fail)
      clear hne q0 q1 q2 q3 z0 z1 z2 z3
      have HI2 := Lib.hid (show OfI L (T 0) (U 0) w.heap.size m w v rs (wr.drewN nq) from ⟨HI.out.bm, below_tb HI.out.lo nq, HI.out.st, HI.out.sb, HI.out.ow⟩)
      clear HI
      generalize wr.drewN nq = W2 at *
      cases p
      · go_wp2
        go_roundw
        case rel => exact ⟨k + 1, by omega, by go_num, _, by rw [← HN.out rfl]; exact HI2.out⟩
        case measure => simp [intOf]; omega
      have y3 : W2.cell? ⟨m, 2, none⟩ = some v := by rw [cell_of_row _ _ _ _ _ _ HI2.out.sb]; rfl
      have y2 : W2.drew.cell? ⟨m, 2, none⟩ = some v := by rw [cell_of_row _ _ _ _ _ _ HI2.out.drew.sb]; rfl
      have hml := nb_lt2 HI2.out.sb
      have nc := (Below.refl W2.heap.size W2).drew
      have CS := Lib.hid (fun W (mm : Below W2.heap.size W2 W) => ent_of_range _ _ _ _ (HQ.out W ((HI2.out.below mm).st _ HLU.out)))
      have HI := Lib.hid HI2.out.drew
      have HOW := Lib.hid (show W2.drew.ownsRow w.heap.size 63 5 v n (flatS rowC rs) by rw [← HLE.out.1]; exact HI2.out.drew.ow)
      have hnn := HLE.out.2
      go_upto_region 8 with fail
      refine wp_region_held_drew (S := fun W => W.cell? ⟨w.heap.size + 1, 1 + k * 4, none⟩ = some (.int .i64 u0) ∧ W.cell? ⟨w.heap.size + 1, 1 + k * 4 + 1, none⟩ = some (.int .i64 u1) ∧ W.cell? ⟨w.heap.size + 1, 1 + k * 4 + 2, none⟩ = some (.int .i64 u2) ∧ W.cell? ⟨w.heap.size + 1, 1 + k * 4 + 3, none⟩ = some (.int .i64 u3)) (by kernel_rfl) (CS.out _ nc) (fun hHeld => ?_)
      refine wpAnyH_take (i := 0) (oi := { dst := some 42, op := Op.fieldAddr 29 (Operand.tmp 6) 2, type := 0, pos := "ref.go:63", after := #[], guard := none }) (v := ?_) rfl (by kernel_rfl) (by kernel_rfl) (by kernel_rfl) (fun _ _ _ h => h) (Or.inl ⟨by rfl, ?_⟩) (by assumption) ?_
      rotate_left
      · intro w hSw
        (try dsimp only at hSw)
        first | (go_simp; done) | (go_simp; with_reducible rfl)
      (try simp only [Act.put, List.setIfInBounds_toArray, List.set_cons_zero, List.set_cons_succ])
      refine wpAnyH_take (i := 2) (oi := { dst := some 44, op := Op.move (Operand.tmp 7), type := 3, pos := "ref.go:63", after := #[], guard := none }) (v := ?_) rfl (by kernel_rfl) (by kernel_rfl) (by kernel_rfl) (fun _ _ _ h => h) (Or.inl ⟨by rfl, ?_⟩) (by assumption) ?_
      rotate_left
      · intro w hSw
        (try dsimp only at hSw)
        first | (go_simp; done) | (go_simp; with_reducible rfl)
      (try simp only [Act.put, List.setIfInBounds_toArray, List.set_cons_zero, List.set_cons_succ])
      refine wpAnyH_take (i := 3) (oi := { dst := some 45, op := Op.move (Operand.tmp 7), type := 3, pos := "ref.go:63", after := #[], guard := none }) (v := ?_) rfl (by kernel_rfl) (by kernel_rfl) (by kernel_rfl) (fun _ _ _ h => h) (Or.inl ⟨by rfl, ?_⟩) (by assumption) ?_
      rotate_left
      · intro w hSw
        (try dsimp only at hSw)
        first | (go_simp; done) | (go_simp; with_reducible rfl)
      (try simp only [Act.put, List.setIfInBounds_toArray, List.set_cons_zero, List.set_cons_succ])
      refine wpAnyH_take (i := 4) (oi := { dst := some 46, op := Op.fieldAddr 26 (Operand.tmp 3) 1, type := 0, pos := "ref.go:63", after := #[], guard := none }) (v := ?_) rfl (by kernel_rfl) (by kernel_rfl) (by kernel_rfl) (fun _ _ _ h => h) (Or.inl ⟨by rfl, ?_⟩) (by assumption) ?_
      rotate_left
      · intro w hSw
        (try dsimp only at hSw)
        first | (go_simp; done) | (go_simp; with_reducible rfl)
      (try simp only [Act.put, List.setIfInBounds_toArray, List.set_cons_zero, List.set_cons_succ])
      refine wpAnyH_take (i := 5) (oi := { dst := some 47, op := Op.indexAddr 24 (Operand.tmp 46) (Operand.tmp 45), type := 0, pos := "ref.go:63", after := #[{ on := 4, ground := Ground.data }, { on := 3, ground := Ground.data }], guard := none }) (v := ?_) rfl (by kernel_rfl) (by kernel_rfl) (by kernel_rfl) (fun _ _ _ h => h) (Or.inl ⟨by rfl, ?_⟩) (by assumption) ?_
      rotate_left
      · intro w hSw
        (try dsimp only at hSw)
        first | (go_simp; done) | (go_simp; with_reducible rfl)
      (try simp only [Act.put, List.setIfInBounds_toArray, List.set_cons_zero, List.set_cons_succ])
      refine wpAnyH_take (i := 6) (oi := { dst := some 48, op := Op.load 23 (Operand.tmp 47), type := 23, pos := "ref.go:63", after := #[{ on := 5, ground := Ground.data }], guard := none }) (v := ?_) rfl (by kernel_rfl) (by kernel_rfl) (by kernel_rfl) (fun _ _ _ h => h) (Or.inl ⟨by rfl, ?_⟩) (by assumption) ?_
      rotate_left
      · intro w hSw
        (try dsimp only at hSw)
        first | (go_simp; done) | (go_simp; with_reducible rfl)
      (try simp only [Act.put, List.setIfInBounds_toArray, List.set_cons_zero, List.set_cons_succ])
      refine wpAnyH_take (i := 7) (oi := { dst := some 49, op := Op.build 63 #[(0, Operand.tmp 44), (1, Operand.tmp 48)], type := 63, pos := "ref.go:63", after := #[{ on := 2, ground := Ground.data }, { on := 6, ground := Ground.data }], guard := none }) (v := ?_) rfl (by kernel_rfl) (by kernel_rfl) (by kernel_rfl) (fun _ _ _ h => h) (Or.inl ⟨by rfl, ?_⟩) (by assumption) ?_
      rotate_left
      · intro w hSw
        (try dsimp only at hSw)
        first | (go_simp; done) | (go_simp; with_reducible rfl)
      (try simp only [Act.put, List.setIfInBounds_toArray, List.set_cons_zero, List.set_cons_succ])
      refine wpAnyH_ready (rs := [1, 8]) (by kernel_rfl) (by simp) ?_
      refine AllReadyH.cons (o := { dst := some 43, op := Op.load 27 (Operand.tmp 42), type := 27, pos := "ref.go:63", after := #[{ on := 0, ground := Ground.data }], guard := none }) rfl (fun K hK => ?_) (AllReadyH.cons (o := { dst := some 50, op := Op.buildSlice 27 1 #[(0, Operand.tmp 49)], type := 27, pos := "ref.go:63", after := #[{ on := 7, ground := Ground.data }], guard := none }) rfl (fun K hK => ?_) AllReadyH.nil)
      go_simp
      refine hK.out _ _ (CS.out _ nc) (fun hHeld => ?_)
      clear hK K
      (try simp only [Act.put, List.setIfInBounds_toArray, List.set_cons_zero, List.set_cons_succ])
      refine wpAnyH_ready (rs := [8]) (by kernel_rfl) (by simp) ?_
      refine AllReadyH.cons (o := { dst := some 50, op := Op.buildSlice 27 1 #[(0, Operand.tmp 49)], type := 27, pos := "ref.go:63", after := #[{ on := 7, ground := Ground.data }], guard := none }) rfl (fun K hK => ?_) AllReadyH.nil
      go_simp
      have jx := (Below.refl W2.drew.heap.size W2.drew).alloc (Nat.le_refl _) (.cells #[.int .i64 (k : Nat), .int .i64 u0, .int .i64 u1, .int .i64 u2, .int .i64 u3] 63)
      replace nc := nc.trans (jx.mono nc.size)
      clear jx
      refine hK.out _ _ (CS.out _ nc) (fun hHeld => ?_)
      clear hK K
      (try simp only [Act.put, List.setIfInBounds_toArray, List.set_cons_zero, List.set_cons_succ])
      rotate_left
      go_simp
      have jx := (Below.refl W2.drew.heap.size W2.drew).alloc (Nat.le_refl _) (.cells #[.int .i64 (k : Nat), .int .i64 u0, .int .i64 u1, .int .i64 u2, .int .i64 u3] 63)
      replace nc := nc.trans (jx.mono nc.size)
      clear jx
      refine hK.out _ _ (CS.out _ nc) (fun hHeld => ?_)
      clear hK K
      (try simp only [Act.put, List.setIfInBounds_toArray, List.set_cons_zero, List.set_cons_succ])
      refine wpAnyH_ready (rs := [1]) (by kernel_rfl) (by simp) ?_
      refine AllReadyH.cons (o := { dst := some 43, op := Op.load 27 (Operand.tmp 42), type := 27, pos := "ref.go:63", after := #[{ on := 0, ground := Ground.data }], guard := none }) rfl (fun K hK => ?_) AllReadyH.nil
      go_simp
      refine hK.out _ _ (CS.out _ nc) (fun hHeld => ?_)
      clear hK K
      (try simp only [Act.put, List.setIfInBounds_toArray, List.set_cons_zero, List.set_cons_succ])
      rotate_left
      all_goals
        refine wpAnyH_ready (rs := [9]) (by kernel_rfl) (by simp) ?_
        refine AllReadyH.cons (o := { dst := some 51, op := Op.call { callee := Callee.builtin Builtin.append, args := #[Operand.tmp 43, Operand.tmp 50], argTypes := #[27, 27] }, type := 27, pos := "ref.go:63", after := #[{ on := 1, ground := Ground.data }, { on := 8, ground := Ground.data }], guard := none }) rfl (fun K hK => ?_) AllReadyH.nil
        refine step_append_s _ (by rfl) _ _ _ (by rfl) w.heap.size 63 i0 _ 5 40 Try.underlying27 hi hz0 hz1 hz2 rfl (by decide) v n (flatS rowC rs) rfl (HOW.out.alloc _) ⟨W2.heap.size, 0, none⟩ 1 1 (rowC ((k : Int), u0, u1, u2, u3)) rfl rfl (newR_cells W2.drew ((k : Int), u0, u1, u2, u3) _) (rowC_one _) (by omega) (by unfold maxLen; omega) (by omega) (by have := HM.out; simp; omega) ?_
        intro g9 cap9 w9 O9 G9
        obtain ⟨hm9, hp9, I9⟩ := HI.out.grown HLL.out ((k : Int), u0, u1, u2, u3) HLE.out.1 G9 O9
        have c9 : w9.cell? ⟨m, 2, none⟩ = some v := by rw [cell_of_row _ _ _ _ _ _ hm9]; rfl
        have f9 := sh_frozen hm9 2
        have H9 := Lib.hid (HQ.out _ (hp9 _ HLU.out))
        have HI9 := Lib.hid I9
        clear hm9 hp9 I9 O9 G9
        refine hK.out _ _ (ent_of_range _ _ _ _ H9.out) (fun hHeld => ?_)
        clear hK K
        (try simp only [Act.put, List.setIfInBounds_toArray, List.set_cons_zero, List.set_cons_succ])
        refine wpAnyH_take (i := 10) (oi := { dst := some 52, op := Op.fieldAddr 29 (Operand.tmp 6) 2, type := 0, pos := "ref.go:63", after := #[{ on := 0, ground := Ground.phase }, { on := 1, ground := Ground.phase }, { on := 2, ground := Ground.phase }, { on := 3, ground := Ground.phase }, { on := 4, ground := Ground.phase }, { on := 5, ground := Ground.phase }, { on := 6, ground := Ground.phase }, { on := 7, ground := Ground.phase }, { on := 8, ground := Ground.phase }, { on := 9, ground := Ground.phase }], guard := none }) (v := ?_) rfl (by kernel_rfl) (by kernel_rfl) (by kernel_rfl) (fun _ _ _ h => h) (Or.inl ⟨by rfl, ?_⟩) (by assumption) ?_
        rotate_left
        · intro w hSw
          (try dsimp only at hSw)
          first | (go_simp; done) | (go_simp; with_reducible rfl)
        (try simp only [Act.put, List.setIfInBounds_toArray, List.set_cons_zero, List.set_cons_succ])
        refine wpAnyH_ready (rs := [11]) (by kernel_rfl) (by simp) ?_
        refine AllReadyH.cons (o := { dst := none, op := Op.store 27 (Operand.tmp 52) (Operand.tmp 51), type := 0, pos := "ref.go:63", after := #[{ on := 10, ground := Ground.data }, { on := 9, ground := Ground.data }, { on := 9, ground := Ground.chain }, { on := 0, ground := Ground.phase }, { on := 1, ground := Ground.phase }, { on := 2, ground := Ground.phase }, { on := 3, ground := Ground.phase }, { on := 4, ground := Ground.phase }, { on := 5, ground := Ground.phase }, { on := 6, ground := Ground.phase }, { on := 7, ground := Ground.phase }, { on := 8, ground := Ground.phase }, { on := 9, ground := Ground.phase }], guard := none }) rfl (fun K hK => ?_) AllReadyH.nil
        go_simp
        refine hK.out _ _ (ent_of_range _ _ _ _ (HQ.out _ (HI9.out.st _ HLU.out))) (fun hHeld => ?_)
        clear hK K
        (try simp only [Act.put, List.setIfInBounds_toArray, List.set_cons_zero, List.set_cons_succ])
        refine wpAnyH_done (by kernel_rfl) ?_ _
        rw [HY.out rfl] at HI9
        clear c9 f9
        go_wp2
        go_roundw
        case rel => exact ⟨k + 1, by omega, by go_num, _, HI9.out⟩
        case measure => simp [intOf]; omega
    · obtain rfl : k = 16 := by omega
      rw [show chK T U 16 = chS T U from rfl] at hI
      obtain ⟨A, c, rfl, -, -, -⟩ := ownS_slice hI.ow
      have hr := hI.st _ HLR.out
      obtain ⟨y0, y1, y2⟩ := sh_cells _ _ _ _ _ hr
      have f0 := sh_frozen hr 0
      have f1 := sh_frozen hr 1
      have f3 := sh_frozen hr 2
      obtain ⟨x0, x1, x2⟩ := sh_cells _ _ _ _ _ hI.sb
      have HR := Lib.hid (full_setCells hr [.int .i64 (T 0), .int .i64 (U 0), .slice A (chS T U).length c] rfl)
      have HO := Lib.hid (ownS_apart (t := 29) (e := 63) (by decide) [.int .i64 (T 0), .int .i64 (U 0), .slice A (chS T U).length c] 0 _ _ hI.ow hr)
      have HB := Lib.hid (below_setCells (w.heap.size + 2) (by omega) [.int .i64 (T 0), .int .i64 (U 0), .slice A (chS T U).length c] 0 w _ hI.lo)
      clear hI hr
      go_wp2
      refine bodyPost_ret (results_sh2 rfl _ _ (w.heap.size + 2) _ (0, 0) rfl HR.out rfl) rfl ?_
      rw [HF.out]
      exact ⟨_, rfl, HO.out, HB.out⟩
end Go.Proofs.Ythgoopdekllanaa
