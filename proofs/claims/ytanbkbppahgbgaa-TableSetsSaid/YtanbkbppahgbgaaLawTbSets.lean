/- 'handfastlaw10.TableSets' returns true at every table, bucket, entry, and leaves what lay as it lay. -/
import Derived.Test.YtanbkbppahgbgaaTbW
import Derived.Test.YtanbkbppahgbgaaTbL
namespace Go.Proofs.Ytanbkbppahgbgaa
open Go.RowKit Go.Shelf
open SumM

attribute [local go_sem] Oper.semAt_some zero_tab guard_undef
attribute [local go_sem ↓] nm_ldT nm_ldA nm_ldN nm_stT nm_stN nm_buT

/-- The law's 'fine'. -/
def fineT (T : Nat → Int) (b : Int) (u : Ent) : Bool := rgT T && rgE u && decide (0 ≤ b) && decide (b < 16) && decide (T 0 < 1099511627776)
theorem setR_row (T : Nat → Int) (k : Nat) (u : Ent) (x : Int) : rowT (upd (setR T k u) 0 x) k = u := by
  obtain ⟨u0, u1, u2, u3⟩ := u
  unfold rowT upd setR upd
  simp only [Prod.mk.injEq]
  refine ⟨?_, ?_, ?_, ?_⟩
  · rw [if_neg (by omega), if_neg (by omega), if_neg (by omega), if_neg (by omega), if_pos trivial]
  · rw [if_neg (by omega), if_neg (by omega), if_neg (by omega), if_pos trivial]
  · rw [if_neg (by omega), if_neg (by omega), if_pos trivial]
  · rw [if_neg (by omega), if_pos trivial]
theorem setR_other (T : Nat → Int) (k i : Nat) (u : Ent) (x : Int) (h : i ≠ k) : rowT (upd (setR T k u) 0 x) i = rowT T i := by
  unfold rowT upd setR upd
  simp only [Prod.mk.injEq]
  refine ⟨?_, ?_, ?_, ?_⟩ <;> rw [if_neg (by omega), if_neg (by omega), if_neg (by omega), if_neg (by omega), if_neg (by omega)]
theorem set_right {T : Nat → Int} {k : Nat} {u : Ent} (h : rgT T = true) (hu : rgE u = true) (hv : T 0 ≠ 1099511627776) : rgT (upd (setR T k u) 0 (T 0 + 1)) = true := by
  obtain ⟨h1, h2⟩ := rgT_iff.1 h
  refine rgT_iff.2 ⟨?_, fun i hi => ?_⟩
  · show 0 ≤ upd (setR T k u) 0 (T 0 + 1) 0 ∧ upd (setR T k u) 0 (T 0 + 1) 0 ≤ 1099511627776
    unfold upd
    rw [if_pos rfl]
    omega
  · by_cases he : i = k
    · subst he
      rw [setR_row]
      exact hu
    · rw [setR_other _ _ _ _ _ he]
      exact h2 i hi
/-- The row and the version laid back: the table as it was. -/
theorem set_back (T : Nat → Int) (k : Nat) (u : Ent) (x : Int) : eqN 65 (upd (setR (upd (setR T k u) 0 x) k (rowT T k)) 0 (T 0)) T = true := by
  rw [eqN_iff]
  intro o _
  unfold upd setR upd rowT
  by_cases h : o = 0
  · subst h
    rw [if_pos rfl]
  rw [if_neg h]
  by_cases h3 : o = 1 + k * 4 + 3
  · rw [if_pos h3, h3]
  rw [if_neg h3]
  by_cases h2 : o = 1 + k * 4 + 2
  · rw [if_pos h2, h2]
  rw [if_neg h2]
  by_cases h1 : o = 1 + k * 4 + 1
  · rw [if_pos h1, h1]
  rw [if_neg h1]
  by_cases h0 : o = 1 + k * 4
  · rw [if_pos h0, h0]
  rw [if_neg h0]
  dsimp only
  rw [if_neg h, if_neg h3, if_neg h2, if_neg h1, if_neg h0]

set_option maxRecDepth 100000 in
set_option maxHeartbeats 16000000 in
theorem tbSets_walk (T : Nat → Int) (b : Int) (ec ep eg et : Int) (w : World) (_hT : TabOk T) (_hb : (Lit.int .i64 b).wf = true) (_hE : Ent.ok (ec, ep, eg, et)) :
    Calls Try.prog 4 #[tabV T, .int .i64 b, .agg #[.int .i64 ec, .int .i64 ep, .int .i64 eg, .int .i64 et]] w fun e w' => e = .returned (.bool true) ∧ Below w.heap.size w w' := by
  have TW := Lib.hid twakes_any
  have bT := heap_alloc_new w (.cells (numL 65 T).toArray 26)
  have LT := (Below.refl w.heap.size w).alloc (Nat.le_refl _) (.cells (numL 65 T).toArray 26)
  have hs1 : (w.alloc (.cells (numL 65 T).toArray 26)).heap.size = w.heap.size + 1 := by simp
  go_enter Try.func4, Try.ntmps4
  go_upto_region 1 with (fail)
  generalize w.alloc (.cells (numL 65 T).toArray 26) = Wa at *
  have bE := heap_alloc_new Wa (.cells #[.int .i64 ec, .int .i64 ep, .int .i64 eg, .int .i64 et] 23)
  replace bT := (Below.heap_alloc Wa (.cells #[.int .i64 ec, .int .i64 ep, .int .i64 eg, .int .i64 et] 23) _ (by omega)).trans bT
  have L0 := LT.alloc LT.size (.cells #[.int .i64 ec, .int .i64 ep, .int .i64 eg, .int .i64 et] 23)
  rw [hs1] at bE
  generalize Wa.alloc (.cells #[.int .i64 ec, .int .i64 ep, .int .i64 eg, .int .i64 et] 23) = W0 at *
  clear LT hs1
  have l0 := ld_tab bT
  obtain ⟨q0, q1, q2, q3⟩ := ent_cells _ _ _ _ bE
  go_wp2_with fail
  refine (set_any T b ec ep eg et W0).mono ?_
  rintro e w1 ⟨rfl, m1⟩
  replace bT := bb bT m1
  replace bE := bb bE m1
  replace L0 := L0.trans (m1.mono L0.size)
  have hAw : w.heap.size + 1 < w1.heap.size := (Array.getElem?_eq_some_iff.1 bE).1
  have HAW := Lib.hid hAw
  have s0 := st_new w1 (setV T b (ec, ep, eg, et))
  obtain ⟨bA, j1⟩ := boxT_new w1 (setV T b (ec, ep, eg, et))
  replace bT := bb bT j1
  replace bE := bb bE j1
  have L1 := L0.trans (j1.mono L0.size)
  clear l0 m1 L0 j1 q0 q1 q2 q3
  go_upto_region 2 with fail
  generalize (w1.alloc (.cells (numL 65 zeroT).toArray 26)).setCells w1.heap.size 0 (numL 65 (setV T b (ec, ep, eg, et))) = W1 at *
  generalize w1.heap.size = A1 at *
  have CB := Lib.hid (fun W (m : Below W1.heap.size W1 W) => And.intro (bb bT m) (And.intro (bb bE m) (And.intro (bb bA m) (L1.trans (m.mono L1.size)))))
  have nc := (Below.refl W1.heap.size W1)
  clear s0 hAw bT bE bA L1
  by_cases hok : setOk T b (ec, ep, eg, et) = false
  · have hV : setV T b (ec, ep, eg, et) = zeroT := by unfold setV; rw [hok]; rfl
    have hN : setN T b (ec, ep, eg, et) = 2 := by unfold setN; rw [hok]; rfl
    rw [hV] at CB
    rw [hV, hN]
    have HFN := Lib.hid (show fineT T b (ec, ep, eg, et) = true → (0 ≤ b ∧ b < 16) ∧ eg ≤ (rowT T b.toNat).2.2.1 by
      intro hf
      unfold fineT at hf
      simp only [Bool.and_eq_true, decide_eq_true_eq] at hf
      refine ⟨⟨hf.1.1.2, hf.1.2⟩, ?_⟩
      unfold setOk at hok
      rw [hf.1.1.1.1, hf.1.1.1.2, decide_eq_true hf.1.1.2, decide_eq_true hf.1.2, show (T 0 == 1099511627776) = false by simp; omega] at hok
      simpa using hok)
    clear hV hN hok
    go_upto_region 3 with fail
    go_cut [9] (fun v wx => v = .bool (fineT T b (ec, ep, eg, et)) ∧ Below W1.heap.size W1 wx)
    case first =>
      obtain ⟨r, hr⟩ : ∃ r, rgT T = r := ⟨_, rfl⟩
      obtain ⟨r', hr'⟩ : ∃ r', rgt ec ep eg et = r' := ⟨_, rfl⟩
      obtain ⟨g1, hg1⟩ : ∃ g1, decide (0 ≤ b) = g1 := ⟨_, rfl⟩
      obtain ⟨g2, hg2⟩ : ∃ g2, decide (b < 16) = g2 := ⟨_, rfl⟩
      obtain ⟨g3, hg3⟩ : ∃ g3, decide (T 0 < 1099511627776) = g3 := ⟨_, rfl⟩
      have KR := Lib.hid (fun W => hr ▸ r10Right_any T W)
      have KE := Lib.hid (fun W => hr' ▸ r9Right_any ec ep eg et W)
      have HF := Lib.hid (show fineT T b (ec, ep, eg, et) = (r && r' && g1 && g2 && g3) by unfold fineT; rw [← hr, ← hr', ← hg1, ← hg2, ← hg3]; rfl)
      obtain ⟨bT, bE, -, -⟩ := CB.out _ nc
      have l0 := ld_tab bT
      clear hr hr' bT bE nc HFN
      cases r
      · clear hg1 hg2 hg3
        go_wp2_with fail
        refine (KR.out W1).mono ?_
        rintro e w2 ⟨rfl, m2⟩
        have HM := Lib.hid m2
        clear l0 m2
        go_wp2_with fail
        go_meet
        exact ⟨by rw [HF.out]; rfl, HM.out⟩
      go_wp2_with fail
      refine (KR.out W1).mono ?_
      rintro e w2 ⟨rfl, m2⟩
      obtain ⟨bT, bE, -, -⟩ := CB.out _ m2
      obtain ⟨q0, q1, q2, q3⟩ := ent_cells _ _ _ _ bE
      have HM := Lib.hid m2
      clear l0 m2 bT bE
      go_wp2_with fail
      refine (KE.out w2).mono ?_
      rintro e w3 ⟨rfl, m3⟩
      have m4 := HM.out.trans (m3.mono HM.out.size)
      obtain ⟨bT, -, -, -⟩ := CB.out _ m4
      have c0 := nb_cell bT (o := 0) (by omega)
      have HM4 := Lib.hid m4
      clear q0 q1 q2 q3 m3 m4 bT HM CB KR KE
      generalize T 0 = t0 at *
      cases r' <;> cases g1 <;> cases g2 <;> cases g3
      all_goals
        go_wp2_with fail
        go_meet
        exact ⟨by rw [HF.out]; rfl, HM4.out⟩
    case rest =>
      obtain ⟨hv9, nd⟩ := hcut
      obtain ⟨bT, bE, bA, L2⟩ := CB.out _ nd
      obtain ⟨fn, hfn⟩ : ∃ fn, fineT T b (ec, ep, eg, et) = fn := ⟨_, rfl⟩
      rw [hfn] at hv9 HFN
      subst hv9
      clear hfn nc CB
      have CB := Lib.hid (fun W (m : Below wc.heap.size wc W) => L2.trans (m.mono L2.size))
      have CT := Lib.hid (fun W (m : Below wc.heap.size wc W) => bb bT m)
      have CS0 := Lib.hid (fun W (m : Below wc.heap.size wc W) => And.intro (ld_tab (bb bA m)) (ent_cells _ _ _ _ (bb bE m)).2.2.1)
      have nc := (Below.refl wc.heap.size wc).drew
      have hq : ∀ W : World, (Go.binOp .eql 26 (tabV zeroT) (tabV zeroT)).run Try.prog W = .ok (.bool true) W := fun W => by rw [eql_tab, eqN_refl]
      clear nd bT bE bA L2
      have hbt := buS_tab
      go_upto_region 4 with fail
      generalize zeroT = tz at *
      cases fn
      · have CS := Lib.hid (fun W (m : Below wc.heap.size wc W) => show (ldS 26 (.pointer (some ⟨A1, 0, none⟩))).run Try.prog W = .ok (tabV tz) W ∧ W.cell? ⟨w.heap.size + 1, 2, none⟩ = some (.int .i64 eg) from CS0.out W m)
        clear CS0 CT HFN
        refine wp_region_held_drew (S := fun W => (ldS 26 (.pointer (some ⟨A1, 0, none⟩))).run Try.prog W = .ok (tabV tz) W ∧ W.cell? ⟨w.heap.size + 1, 2, none⟩ = some (.int .i64 eg)) (by kernel_rfl) (CS.out _ nc) (fun hHeld => ?_)
        refine wpAnyH_take (i := 0) (oi := { dst := some 38, op := Op.move (Operand.tmp 8), type := 27, pos := "law.go:39", after := #[], guard := none }) (v := ?_) rfl (by kernel_rfl) (by kernel_rfl) (by kernel_rfl) (fun _ _ _ h => h) (Or.inl ⟨by rfl, ?_⟩) (by assumption) ?_
        rotate_left
        · intro w hSw
          (try dsimp only at hSw)
          first | (go_simp; done) | (go_simp; with_reducible rfl)
        (try simp only [Act.put, List.setIfInBounds_toArray, List.set_cons_zero, List.set_cons_succ])
        refine wpAnyH_take (i := 1) (oi := { dst := some 39, op := Op.binOp BinOp.eql 27 (Operand.tmp 38) (Operand.const (Value.int IntKind.i64 2)) 27, type := 4, pos := "law.go:39", after := #[{ on := 0, ground := Ground.data }], guard := none }) (v := ?_) rfl (by kernel_rfl) (by kernel_rfl) (by kernel_rfl) (fun _ _ _ h => h) (Or.inl ⟨by rfl, ?_⟩) (by assumption) ?_
        rotate_left
        · intro w hSw
          (try dsimp only at hSw)
          first | (go_simp; done) | (go_simp; with_reducible rfl)
        (try simp only [Act.put, List.setIfInBounds_toArray, List.set_cons_zero, List.set_cons_succ])
        refine wpAnyH_take (i := 2) (oi := { dst := some 40, op := Op.move (Operand.tmp 39), type := 4, pos := "law.go:39", after := #[{ on := 1, ground := Ground.data }], guard := none }) (v := ?_) rfl (by kernel_rfl) (by kernel_rfl) (by kernel_rfl) (fun _ _ _ h => h) (Or.inl ⟨by rfl, ?_⟩) (by assumption) ?_
        rotate_left
        · intro w hSw
          (try dsimp only at hSw)
          first | (go_simp; done) | (go_simp; with_reducible rfl)
        (try simp only [Act.put, List.setIfInBounds_toArray, List.set_cons_zero, List.set_cons_succ])
        refine wpAnyH_take (i := 3) (oi := { dst := some 41, op := Op.load 26 (Operand.tmp 7), type := 26, pos := "law.go:39", after := #[{ on := 2, ground := Ground.guard }], guard := some (2, true) }) (v := ?_) rfl (by kernel_rfl) (by kernel_rfl) (by kernel_rfl) (fun _ _ _ h => h) (Or.inl ⟨by rfl, ?_⟩) (by assumption) ?_
        rotate_left
        · intro w hSw
          (try dsimp only at hSw)
          first | (go_simp; done) | (go_simp; with_reducible rfl)
        (try simp only [Act.put, List.setIfInBounds_toArray, List.set_cons_zero, List.set_cons_succ])
        refine wpAnyH_take (i := 4) (oi := { dst := some 42, op := Op.build 26 #[], type := 26, pos := "law.go:39", after := #[{ on := 2, ground := Ground.guard }], guard := some (2, true) }) (v := ?_) rfl (by kernel_rfl) (by kernel_rfl) (by kernel_rfl) (fun _ _ _ h => h) (Or.inl ⟨by rfl, ?_⟩) (by assumption) ?_
        rotate_left
        · intro w hSw
          (try dsimp only at hSw)
          first | (go_simp; done) | (go_simp; with_reducible rfl)
        (try simp only [Act.put, List.setIfInBounds_toArray, List.set_cons_zero, List.set_cons_succ])
        refine wpAnyH_take (i := 5) (oi := { dst := some 43, op := Op.binOp BinOp.eql 26 (Operand.tmp 41) (Operand.tmp 42) 26, type := 4, pos := "law.go:39", after := #[{ on := 3, ground := Ground.data }, { on := 4, ground := Ground.data }, { on := 2, ground := Ground.guard }], guard := some (2, true) }) (v := ?_) rfl (by kernel_rfl) (by kernel_rfl) (by kernel_rfl) (fun _ _ _ h => h) (Or.inl ⟨by rfl, ?_⟩) (by assumption) ?_
        rotate_left
        · intro w hSw
          (try dsimp only at hSw)
          first | (go_simp; done) | (go_simp; with_reducible rfl)
        (try simp only [Act.put, List.setIfInBounds_toArray, List.set_cons_zero, List.set_cons_succ])
        refine wpAnyH_take (i := 6) (oi := { dst := some 44, op := Op.pick (Operand.tmp 40) (Operand.tmp 43) (Operand.const (Value.bool false)), type := 4, pos := "law.go:39", after := #[{ on := 2, ground := Ground.data }, { on := 5, ground := Ground.data }], guard := none }) (v := ?_) rfl (by kernel_rfl) (by kernel_rfl) (by kernel_rfl) (fun _ _ _ h => h) (Or.inl ⟨by rfl, ?_⟩) (by assumption) ?_
        rotate_left
        · intro w hSw
          (try dsimp only at hSw)
          first | (go_simp; done) | (go_simp; with_reducible rfl)
        (try simp only [Act.put, List.setIfInBounds_toArray, List.set_cons_zero, List.set_cons_succ])
        refine wpAnyH_take (i := 7) (oi := { dst := some 45, op := Op.move (Operand.tmp 44), type := 4, pos := "law.go:39", after := #[{ on := 6, ground := Ground.data }, { on := 2, ground := Ground.chain }], guard := none }) (v := ?_) rfl (by kernel_rfl) (by kernel_rfl) (by kernel_rfl) (fun _ _ _ h => h) (Or.inl ⟨by rfl, ?_⟩) (by assumption) ?_
        rotate_left
        · intro w hSw
          (try dsimp only at hSw)
          first | (go_simp; done) | (go_simp; with_reducible rfl)
        (try simp only [Act.put, List.setIfInBounds_toArray, List.set_cons_zero, List.set_cons_succ])
        refine wpAnyH_take (i := 8) (oi := { dst := some 46, op := Op.move (Operand.tmp 9), type := 4, pos := "law.go:39", after := #[{ on := 7, ground := Ground.guard }], guard := some (7, true) }) (v := ?_) rfl (by kernel_rfl) (by kernel_rfl) (by kernel_rfl) (fun _ _ _ h => h) (Or.inl ⟨by rfl, ?_⟩) (by assumption) ?_
        rotate_left
        · intro w hSw
          (try dsimp only at hSw)
          first | (go_simp; done) | (go_simp; with_reducible rfl)
        (try simp only [Act.put, List.setIfInBounds_toArray, List.set_cons_zero, List.set_cons_succ])
        refine wpAnyH_take (i := 9) (oi := { dst := some 47, op := Op.unOp UnOp.not 4 (Operand.tmp 46), type := 4, pos := "law.go:39", after := #[{ on := 8, ground := Ground.data }, { on := 7, ground := Ground.guard }], guard := some (7, true) }) (v := ?_) rfl (by kernel_rfl) (by kernel_rfl) (by kernel_rfl) (fun _ _ _ h => h) (Or.inl ⟨by rfl, ?_⟩) (by assumption) ?_
        rotate_left
        · intro w hSw
          (try dsimp only at hSw)
          first | (go_simp; done) | (go_simp; with_reducible rfl)
        (try simp only [Act.put, List.setIfInBounds_toArray, List.set_cons_zero, List.set_cons_succ])
        refine wpAnyH_take (i := 10) (oi := { dst := some 48, op := Op.move (Operand.tmp 47), type := 4, pos := "law.go:39", after := #[{ on := 9, ground := Ground.data }, { on := 7, ground := Ground.chain }, { on := 7, ground := Ground.guard }], guard := some (7, true) }) (v := ?_) rfl (by kernel_rfl) (by kernel_rfl) (by kernel_rfl) (fun _ _ _ h => h) (Or.inl ⟨by rfl, ?_⟩) (by assumption) ?_
        rotate_left
        · intro w hSw
          (try dsimp only at hSw)
          first | (go_simp; done) | (go_simp; with_reducible rfl)
        (try simp only [Act.put, List.setIfInBounds_toArray, List.set_cons_zero, List.set_cons_succ])
        refine wpAnyH_take (i := 11) (oi := { dst := some 49, op := Op.fieldAddr 23 (Operand.tmp 5) 2, type := 0, pos := "law.go:39", after := #[{ on := 10, ground := Ground.guard }], guard := some (10, false) }) (v := undef) rfl (by kernel_rfl) (by kernel_rfl) (by kernel_rfl) (fun _ _ _ h => h) (Or.inr ⟨by rfl, rfl⟩) (by assumption) ?_
        (try simp only [Act.put, List.setIfInBounds_toArray, List.set_cons_zero, List.set_cons_succ])
        refine wpAnyH_take (i := 12) (oi := { dst := some 50, op := Op.load 3 (Operand.tmp 49), type := 3, pos := "law.go:39", after := #[{ on := 11, ground := Ground.data }, { on := 10, ground := Ground.guard }], guard := some (10, false) }) (v := undef) rfl (by kernel_rfl) (by kernel_rfl) (by kernel_rfl) (fun _ _ _ h => h) (Or.inr ⟨by rfl, rfl⟩) (by assumption) ?_
        (try simp only [Act.put, List.setIfInBounds_toArray, List.set_cons_zero, List.set_cons_succ])
        refine wpAnyH_take (i := 13) (oi := { dst := some 51, op := Op.move (Operand.tmp 1), type := 3, pos := "law.go:39", after := #[{ on := 10, ground := Ground.guard }], guard := some (10, false) }) (v := undef) rfl (by kernel_rfl) (by kernel_rfl) (by kernel_rfl) (fun _ _ _ h => h) (Or.inr ⟨by rfl, rfl⟩) (by assumption) ?_
        (try simp only [Act.put, List.setIfInBounds_toArray, List.set_cons_zero, List.set_cons_succ])
        refine wpAnyH_take (i := 14) (oi := { dst := some 52, op := Op.call { callee := Callee.builtin Builtin.min, args := #[Operand.tmp 51, Operand.const (Value.int IntKind.i64 15)], argTypes := #[3, 3] }, type := 3, pos := "law.go:39", after := #[{ on := 13, ground := Ground.data }, { on := 10, ground := Ground.guard }], guard := some (10, false) }) (v := undef) rfl (by kernel_rfl) (by kernel_rfl) (by kernel_rfl) (fun _ _ _ h => h) (Or.inr ⟨by rfl, rfl⟩) (by assumption) ?_
        (try simp only [Act.put, List.setIfInBounds_toArray, List.set_cons_zero, List.set_cons_succ])
        refine wpAnyH_take (i := 15) (oi := { dst := some 53, op := Op.call { callee := Callee.builtin Builtin.max, args := #[Operand.tmp 52, Operand.const (Value.int IntKind.i64 0)], argTypes := #[3, 3] }, type := 3, pos := "law.go:39", after := #[{ on := 14, ground := Ground.data }, { on := 10, ground := Ground.guard }], guard := some (10, false) }) (v := undef) rfl (by kernel_rfl) (by kernel_rfl) (by kernel_rfl) (fun _ _ _ h => h) (Or.inr ⟨by rfl, rfl⟩) (by assumption) ?_
        (try simp only [Act.put, List.setIfInBounds_toArray, List.set_cons_zero, List.set_cons_succ])
        refine wpAnyH_take (i := 16) (oi := { dst := some 54, op := Op.fieldAddr 26 (Operand.tmp 3) 1, type := 0, pos := "law.go:39", after := #[{ on := 10, ground := Ground.guard }], guard := some (10, false) }) (v := undef) rfl (by kernel_rfl) (by kernel_rfl) (by kernel_rfl) (fun _ _ _ h => h) (Or.inr ⟨by rfl, rfl⟩) (by assumption) ?_
        (try simp only [Act.put, List.setIfInBounds_toArray, List.set_cons_zero, List.set_cons_succ])
        refine wpAnyH_take (i := 17) (oi := { dst := some 55, op := Op.indexAddr 24 (Operand.tmp 54) (Operand.tmp 53), type := 0, pos := "law.go:39", after := #[{ on := 16, ground := Ground.data }, { on := 15, ground := Ground.data }, { on := 10, ground := Ground.guard }], guard := some (10, false) }) (v := undef) rfl (by kernel_rfl) (by kernel_rfl) (by kernel_rfl) (fun _ _ _ h => h) (Or.inr ⟨by rfl, rfl⟩) (by assumption) ?_
        (try simp only [Act.put, List.setIfInBounds_toArray, List.set_cons_zero, List.set_cons_succ])
        refine wpAnyH_take (i := 18) (oi := { dst := some 56, op := Op.fieldAddr 23 (Operand.tmp 55) 2, type := 0, pos := "law.go:39", after := #[{ on := 17, ground := Ground.data }, { on := 10, ground := Ground.guard }], guard := some (10, false) }) (v := undef) rfl (by kernel_rfl) (by kernel_rfl) (by kernel_rfl) (fun _ _ _ h => h) (Or.inr ⟨by rfl, rfl⟩) (by assumption) ?_
        (try simp only [Act.put, List.setIfInBounds_toArray, List.set_cons_zero, List.set_cons_succ])
        refine wpAnyH_take (i := 19) (oi := { dst := some 57, op := Op.load 3 (Operand.tmp 56), type := 3, pos := "law.go:39", after := #[{ on := 18, ground := Ground.data }, { on := 10, ground := Ground.guard }], guard := some (10, false) }) (v := undef) rfl (by kernel_rfl) (by kernel_rfl) (by kernel_rfl) (fun _ _ _ h => h) (Or.inr ⟨by rfl, rfl⟩) (by assumption) ?_
        (try simp only [Act.put, List.setIfInBounds_toArray, List.set_cons_zero, List.set_cons_succ])
        refine wpAnyH_take (i := 20) (oi := { dst := some 58, op := Op.binOp BinOp.leq 3 (Operand.tmp 50) (Operand.tmp 57) 3, type := 4, pos := "law.go:39", after := #[{ on := 12, ground := Ground.data }, { on := 19, ground := Ground.data }, { on := 10, ground := Ground.guard }], guard := some (10, false) }) (v := undef) rfl (by kernel_rfl) (by kernel_rfl) (by kernel_rfl) (fun _ _ _ h => h) (Or.inr ⟨by rfl, rfl⟩) (by assumption) ?_
        (try simp only [Act.put, List.setIfInBounds_toArray, List.set_cons_zero, List.set_cons_succ])
        refine wpAnyH_take (i := 21) (oi := { dst := some 59, op := Op.pick (Operand.tmp 48) (Operand.const (Value.bool true)) (Operand.tmp 58), type := 4, pos := "law.go:39", after := #[{ on := 10, ground := Ground.data }, { on := 20, ground := Ground.data }, { on := 7, ground := Ground.guard }], guard := some (7, true) }) (v := ?_) rfl (by kernel_rfl) (by kernel_rfl) (by kernel_rfl) (fun _ _ _ h => h) (Or.inl ⟨by rfl, ?_⟩) (by assumption) ?_
        rotate_left
        · intro w hSw
          (try dsimp only at hSw)
          first | (go_simp; done) | (go_simp; with_reducible rfl)
        (try simp only [Act.put, List.setIfInBounds_toArray, List.set_cons_zero, List.set_cons_succ])
        refine wpAnyH_take (i := 22) (oi := { dst := some 60, op := Op.pick (Operand.tmp 45) (Operand.tmp 59) (Operand.const (Value.bool false)), type := 4, pos := "law.go:39", after := #[{ on := 7, ground := Ground.data }, { on := 21, ground := Ground.data }], guard := none }) (v := ?_) rfl (by kernel_rfl) (by kernel_rfl) (by kernel_rfl) (fun _ _ _ h => h) (Or.inl ⟨by rfl, ?_⟩) (by assumption) ?_
        rotate_left
        · intro w hSw
          (try dsimp only at hSw)
          first | (go_simp; done) | (go_simp; with_reducible rfl)
        (try simp only [Act.put, List.setIfInBounds_toArray, List.set_cons_zero, List.set_cons_succ])
        refine wpAnyH_take (i := 23) (oi := { dst := some 61, op := Op.move (Operand.tmp 60), type := 4, pos := "law.go:39", after := #[{ on := 22, ground := Ground.data }, { on := 10, ground := Ground.chain }], guard := none }) (v := ?_) rfl (by kernel_rfl) (by kernel_rfl) (by kernel_rfl) (fun _ _ _ h => h) (Or.inl ⟨by rfl, ?_⟩) (by assumption) ?_
        rotate_left
        · intro w hSw
          (try dsimp only at hSw)
          first | (go_simp; done) | (go_simp; with_reducible rfl)
        (try simp only [Act.put, List.setIfInBounds_toArray, List.set_cons_zero, List.set_cons_succ])
        refine wpAnyH_ready (rs := [24]) (by kernel_rfl) (by simp) ?_
        refine AllReadyH.cons (o := { dst := some 62, op := Op.call { callee := Callee.value (Operand.func 27), args := #[], argTypes := #[] }, type := 4, pos := "law.go:39", after := #[{ on := 23, ground := Ground.chain }, { on := 23, ground := Ground.guard }], guard := some (23, true) }) rfl (fun K hK => ?_) AllReadyH.nil
        go_simp
        refine (TW.out _).mono ?_
        rintro e wx ⟨rfl, jx⟩
        replace nc := nc.trans (jx.mono nc.size)
        clear jx
        refine hK.out _ _ (CS.out _ nc) (fun hHeld => ?_)
        clear hK K
        (try simp only [Act.put, List.setIfInBounds_toArray, List.set_cons_zero, List.set_cons_succ])
        refine wpAnyH_take (i := 25) (oi := { dst := some 63, op := Op.pick (Operand.tmp 61) (Operand.tmp 62) (Operand.const (Value.bool false)), type := 4, pos := "law.go:39", after := #[{ on := 23, ground := Ground.data }, { on := 24, ground := Ground.data }], guard := none }) (v := ?_) rfl (by kernel_rfl) (by kernel_rfl) (by kernel_rfl) (fun _ _ _ h => h) (Or.inl ⟨by rfl, ?_⟩) (by assumption) ?_
        rotate_left
        · intro w hSw
          (try dsimp only at hSw)
          first | (go_simp; done) | (go_simp; with_reducible rfl)
        (try simp only [Act.put, List.setIfInBounds_toArray, List.set_cons_zero, List.set_cons_succ])
        refine wpAnyH_take (i := 26) (oi := { dst := some 6, op := Op.assign (Operand.tmp 63), type := 4, pos := "law.go:39", after := #[{ on := 25, ground := Ground.data }, { on := 24, ground := Ground.chain }, { on := 0, ground := Ground.phase }, { on := 1, ground := Ground.phase }, { on := 2, ground := Ground.phase }, { on := 3, ground := Ground.phase }, { on := 4, ground := Ground.phase }, { on := 5, ground := Ground.phase }, { on := 6, ground := Ground.phase }, { on := 7, ground := Ground.phase }, { on := 8, ground := Ground.phase }, { on := 9, ground := Ground.phase }, { on := 10, ground := Ground.phase }, { on := 11, ground := Ground.phase }, { on := 12, ground := Ground.phase }, { on := 13, ground := Ground.phase }, { on := 14, ground := Ground.phase }, { on := 15, ground := Ground.phase }, { on := 16, ground := Ground.phase }, { on := 17, ground := Ground.phase }, { on := 18, ground := Ground.phase }, { on := 19, ground := Ground.phase }, { on := 20, ground := Ground.phase }, { on := 21, ground := Ground.phase }, { on := 22, ground := Ground.phase }, { on := 23, ground := Ground.phase }, { on := 24, ground := Ground.phase }, { on := 25, ground := Ground.phase }], guard := none }) (v := ?_) rfl (by kernel_rfl) (by kernel_rfl) (by kernel_rfl) (fun _ _ _ h => h) (Or.inl ⟨by rfl, ?_⟩) (by assumption) ?_
        rotate_left
        · intro w hSw
          (try dsimp only at hSw)
          first | (go_simp; done) | (go_simp; with_reducible rfl)
        (try simp only [Act.put, List.setIfInBounds_toArray, List.set_cons_zero, List.set_cons_succ])
        refine wpAnyH_done (by kernel_rfl) ?_ _
        have L := CB.out _ nc
        clear CS hHeld
        go_wp2
        go_ret
        exact ⟨rfl, L⟩
      · obtain ⟨hb, hg⟩ := HFN.out rfl
        obtain ⟨k, rfl⟩ : ∃ k : Nat, b = (k : Int) := ⟨b.toNat, by omega⟩
        have hk : k < 16 := by omega
        rw [Int.toNat_natCast] at hg
        have CS := Lib.hid (fun W (m : Below wc.heap.size wc W) => show (ldS 26 (.pointer (some ⟨A1, 0, none⟩))).run Try.prog W = .ok (tabV tz) W ∧ W.cell? ⟨w.heap.size + 1, 2, none⟩ = some (.int .i64 eg) ∧ W.cell? ⟨w.heap.size, 1 + k * 4 + 2, none⟩ = some (.int .i64 (rowT T k).2.2.1) from ⟨(CS0.out W m).1, (CS0.out W m).2, nb_cell (CT.out W m) (by omega)⟩)
        generalize (rowT T k).2.2.1 = u2 at *
        have hk1 : (k : Int) < 16 := by omega
        have hk0 : (0 : Int) ≤ (k : Int) := by omega
        have e1 : ¬ (15 : Int) < (k : Int) := by omega
        have e1' : (k : Int) ≤ 15 := by omega
        have e2 : ¬ (k : Int) < 0 := by omega
        have e3 : decide (eg ≤ u2) = true := decide_eq_true hg
        clear CS0 CT HFN hb
        refine wp_region_held_drew (S := fun W => (ldS 26 (.pointer (some ⟨A1, 0, none⟩))).run Try.prog W = .ok (tabV tz) W ∧ W.cell? ⟨w.heap.size + 1, 2, none⟩ = some (.int .i64 eg) ∧ W.cell? ⟨w.heap.size, 1 + k * 4 + 2, none⟩ = some (.int .i64 u2)) (by kernel_rfl) (CS.out _ nc) (fun hHeld => ?_)
        refine wpAnyH_take (i := 0) (oi := { dst := some 38, op := Op.move (Operand.tmp 8), type := 27, pos := "law.go:39", after := #[], guard := none }) (v := ?_) rfl (by kernel_rfl) (by kernel_rfl) (by kernel_rfl) (fun _ _ _ h => h) (Or.inl ⟨by rfl, ?_⟩) (by assumption) ?_
        rotate_left
        · intro w hSw
          (try dsimp only at hSw)
          first | (go_simp; done) | (go_simp; with_reducible rfl)
        (try simp only [Act.put, List.setIfInBounds_toArray, List.set_cons_zero, List.set_cons_succ])
        refine wpAnyH_take (i := 1) (oi := { dst := some 39, op := Op.binOp BinOp.eql 27 (Operand.tmp 38) (Operand.const (Value.int IntKind.i64 2)) 27, type := 4, pos := "law.go:39", after := #[{ on := 0, ground := Ground.data }], guard := none }) (v := ?_) rfl (by kernel_rfl) (by kernel_rfl) (by kernel_rfl) (fun _ _ _ h => h) (Or.inl ⟨by rfl, ?_⟩) (by assumption) ?_
        rotate_left
        · intro w hSw
          (try dsimp only at hSw)
          first | (go_simp; done) | (go_simp; with_reducible rfl)
        (try simp only [Act.put, List.setIfInBounds_toArray, List.set_cons_zero, List.set_cons_succ])
        refine wpAnyH_take (i := 2) (oi := { dst := some 40, op := Op.move (Operand.tmp 39), type := 4, pos := "law.go:39", after := #[{ on := 1, ground := Ground.data }], guard := none }) (v := ?_) rfl (by kernel_rfl) (by kernel_rfl) (by kernel_rfl) (fun _ _ _ h => h) (Or.inl ⟨by rfl, ?_⟩) (by assumption) ?_
        rotate_left
        · intro w hSw
          (try dsimp only at hSw)
          first | (go_simp; done) | (go_simp; with_reducible rfl)
        (try simp only [Act.put, List.setIfInBounds_toArray, List.set_cons_zero, List.set_cons_succ])
        refine wpAnyH_take (i := 3) (oi := { dst := some 41, op := Op.load 26 (Operand.tmp 7), type := 26, pos := "law.go:39", after := #[{ on := 2, ground := Ground.guard }], guard := some (2, true) }) (v := ?_) rfl (by kernel_rfl) (by kernel_rfl) (by kernel_rfl) (fun _ _ _ h => h) (Or.inl ⟨by rfl, ?_⟩) (by assumption) ?_
        rotate_left
        · intro w hSw
          (try dsimp only at hSw)
          first | (go_simp; done) | (go_simp; with_reducible rfl)
        (try simp only [Act.put, List.setIfInBounds_toArray, List.set_cons_zero, List.set_cons_succ])
        refine wpAnyH_take (i := 4) (oi := { dst := some 42, op := Op.build 26 #[], type := 26, pos := "law.go:39", after := #[{ on := 2, ground := Ground.guard }], guard := some (2, true) }) (v := ?_) rfl (by kernel_rfl) (by kernel_rfl) (by kernel_rfl) (fun _ _ _ h => h) (Or.inl ⟨by rfl, ?_⟩) (by assumption) ?_
        rotate_left
        · intro w hSw
          (try dsimp only at hSw)
          first | (go_simp; done) | (go_simp; with_reducible rfl)
        (try simp only [Act.put, List.setIfInBounds_toArray, List.set_cons_zero, List.set_cons_succ])
        refine wpAnyH_take (i := 5) (oi := { dst := some 43, op := Op.binOp BinOp.eql 26 (Operand.tmp 41) (Operand.tmp 42) 26, type := 4, pos := "law.go:39", after := #[{ on := 3, ground := Ground.data }, { on := 4, ground := Ground.data }, { on := 2, ground := Ground.guard }], guard := some (2, true) }) (v := ?_) rfl (by kernel_rfl) (by kernel_rfl) (by kernel_rfl) (fun _ _ _ h => h) (Or.inl ⟨by rfl, ?_⟩) (by assumption) ?_
        rotate_left
        · intro w hSw
          (try dsimp only at hSw)
          first | (go_simp; done) | (go_simp; with_reducible rfl)
        (try simp only [Act.put, List.setIfInBounds_toArray, List.set_cons_zero, List.set_cons_succ])
        refine wpAnyH_take (i := 6) (oi := { dst := some 44, op := Op.pick (Operand.tmp 40) (Operand.tmp 43) (Operand.const (Value.bool false)), type := 4, pos := "law.go:39", after := #[{ on := 2, ground := Ground.data }, { on := 5, ground := Ground.data }], guard := none }) (v := ?_) rfl (by kernel_rfl) (by kernel_rfl) (by kernel_rfl) (fun _ _ _ h => h) (Or.inl ⟨by rfl, ?_⟩) (by assumption) ?_
        rotate_left
        · intro w hSw
          (try dsimp only at hSw)
          first | (go_simp; done) | (go_simp; with_reducible rfl)
        (try simp only [Act.put, List.setIfInBounds_toArray, List.set_cons_zero, List.set_cons_succ])
        refine wpAnyH_take (i := 7) (oi := { dst := some 45, op := Op.move (Operand.tmp 44), type := 4, pos := "law.go:39", after := #[{ on := 6, ground := Ground.data }, { on := 2, ground := Ground.chain }], guard := none }) (v := ?_) rfl (by kernel_rfl) (by kernel_rfl) (by kernel_rfl) (fun _ _ _ h => h) (Or.inl ⟨by rfl, ?_⟩) (by assumption) ?_
        rotate_left
        · intro w hSw
          (try dsimp only at hSw)
          first | (go_simp; done) | (go_simp; with_reducible rfl)
        (try simp only [Act.put, List.setIfInBounds_toArray, List.set_cons_zero, List.set_cons_succ])
        refine wpAnyH_take (i := 8) (oi := { dst := some 46, op := Op.move (Operand.tmp 9), type := 4, pos := "law.go:39", after := #[{ on := 7, ground := Ground.guard }], guard := some (7, true) }) (v := ?_) rfl (by kernel_rfl) (by kernel_rfl) (by kernel_rfl) (fun _ _ _ h => h) (Or.inl ⟨by rfl, ?_⟩) (by assumption) ?_
        rotate_left
        · intro w hSw
          (try dsimp only at hSw)
          first | (go_simp; done) | (go_simp; with_reducible rfl)
        (try simp only [Act.put, List.setIfInBounds_toArray, List.set_cons_zero, List.set_cons_succ])
        refine wpAnyH_take (i := 9) (oi := { dst := some 47, op := Op.unOp UnOp.not 4 (Operand.tmp 46), type := 4, pos := "law.go:39", after := #[{ on := 8, ground := Ground.data }, { on := 7, ground := Ground.guard }], guard := some (7, true) }) (v := ?_) rfl (by kernel_rfl) (by kernel_rfl) (by kernel_rfl) (fun _ _ _ h => h) (Or.inl ⟨by rfl, ?_⟩) (by assumption) ?_
        rotate_left
        · intro w hSw
          (try dsimp only at hSw)
          first | (go_simp; done) | (go_simp; with_reducible rfl)
        (try simp only [Act.put, List.setIfInBounds_toArray, List.set_cons_zero, List.set_cons_succ])
        refine wpAnyH_take (i := 10) (oi := { dst := some 48, op := Op.move (Operand.tmp 47), type := 4, pos := "law.go:39", after := #[{ on := 9, ground := Ground.data }, { on := 7, ground := Ground.chain }, { on := 7, ground := Ground.guard }], guard := some (7, true) }) (v := ?_) rfl (by kernel_rfl) (by kernel_rfl) (by kernel_rfl) (fun _ _ _ h => h) (Or.inl ⟨by rfl, ?_⟩) (by assumption) ?_
        rotate_left
        · intro w hSw
          (try dsimp only at hSw)
          first | (go_simp; done) | (go_simp; with_reducible rfl)
        (try simp only [Act.put, List.setIfInBounds_toArray, List.set_cons_zero, List.set_cons_succ])
        refine wpAnyH_take (i := 11) (oi := { dst := some 49, op := Op.fieldAddr 23 (Operand.tmp 5) 2, type := 0, pos := "law.go:39", after := #[{ on := 10, ground := Ground.guard }], guard := some (10, false) }) (v := ?_) rfl (by kernel_rfl) (by kernel_rfl) (by kernel_rfl) (fun _ _ _ h => h) (Or.inl ⟨by rfl, ?_⟩) (by assumption) ?_
        rotate_left
        · intro w hSw
          (try dsimp only at hSw)
          first | (go_simp; done) | (go_simp; with_reducible rfl)
        (try simp only [Act.put, List.setIfInBounds_toArray, List.set_cons_zero, List.set_cons_succ])
        refine wpAnyH_take (i := 12) (oi := { dst := some 50, op := Op.load 3 (Operand.tmp 49), type := 3, pos := "law.go:39", after := #[{ on := 11, ground := Ground.data }, { on := 10, ground := Ground.guard }], guard := some (10, false) }) (v := ?_) rfl (by kernel_rfl) (by kernel_rfl) (by kernel_rfl) (fun _ _ _ h => h) (Or.inl ⟨by rfl, ?_⟩) (by assumption) ?_
        rotate_left
        · intro w hSw
          (try dsimp only at hSw)
          first | (go_simp; done) | (go_simp; with_reducible rfl)
        (try simp only [Act.put, List.setIfInBounds_toArray, List.set_cons_zero, List.set_cons_succ])
        refine wpAnyH_take (i := 13) (oi := { dst := some 51, op := Op.move (Operand.tmp 1), type := 3, pos := "law.go:39", after := #[{ on := 10, ground := Ground.guard }], guard := some (10, false) }) (v := ?_) rfl (by kernel_rfl) (by kernel_rfl) (by kernel_rfl) (fun _ _ _ h => h) (Or.inl ⟨by rfl, ?_⟩) (by assumption) ?_
        rotate_left
        · intro w hSw
          (try dsimp only at hSw)
          first | (go_simp; done) | (go_simp; with_reducible rfl)
        (try simp only [Act.put, List.setIfInBounds_toArray, List.set_cons_zero, List.set_cons_succ])
        refine wpAnyH_take (i := 14) (oi := { dst := some 52, op := Op.call { callee := Callee.builtin Builtin.min, args := #[Operand.tmp 51, Operand.const (Value.int IntKind.i64 15)], argTypes := #[3, 3] }, type := 3, pos := "law.go:39", after := #[{ on := 13, ground := Ground.data }, { on := 10, ground := Ground.guard }], guard := some (10, false) }) (v := ?_) rfl (by kernel_rfl) (by kernel_rfl) (by kernel_rfl) (fun _ _ _ h => h) (Or.inl ⟨by rfl, ?_⟩) (by assumption) ?_
        rotate_left
        · intro w hSw
          (try dsimp only at hSw)
          first | (go_simp; done) | (go_simp; with_reducible rfl)
        (try simp only [Act.put, List.setIfInBounds_toArray, List.set_cons_zero, List.set_cons_succ])
        refine wpAnyH_take (i := 15) (oi := { dst := some 53, op := Op.call { callee := Callee.builtin Builtin.max, args := #[Operand.tmp 52, Operand.const (Value.int IntKind.i64 0)], argTypes := #[3, 3] }, type := 3, pos := "law.go:39", after := #[{ on := 14, ground := Ground.data }, { on := 10, ground := Ground.guard }], guard := some (10, false) }) (v := ?_) rfl (by kernel_rfl) (by kernel_rfl) (by kernel_rfl) (fun _ _ _ h => h) (Or.inl ⟨by rfl, ?_⟩) (by assumption) ?_
        rotate_left
        · intro w hSw
          (try dsimp only at hSw)
          first | (go_simp; done) | (go_simp; with_reducible rfl)
        (try simp only [Act.put, List.setIfInBounds_toArray, List.set_cons_zero, List.set_cons_succ])
        refine wpAnyH_take (i := 16) (oi := { dst := some 54, op := Op.fieldAddr 26 (Operand.tmp 3) 1, type := 0, pos := "law.go:39", after := #[{ on := 10, ground := Ground.guard }], guard := some (10, false) }) (v := ?_) rfl (by kernel_rfl) (by kernel_rfl) (by kernel_rfl) (fun _ _ _ h => h) (Or.inl ⟨by rfl, ?_⟩) (by assumption) ?_
        rotate_left
        · intro w hSw
          (try dsimp only at hSw)
          first | (go_simp; done) | (go_simp; with_reducible rfl)
        (try simp only [Act.put, List.setIfInBounds_toArray, List.set_cons_zero, List.set_cons_succ])
        refine wpAnyH_take (i := 17) (oi := { dst := some 55, op := Op.indexAddr 24 (Operand.tmp 54) (Operand.tmp 53), type := 0, pos := "law.go:39", after := #[{ on := 16, ground := Ground.data }, { on := 15, ground := Ground.data }, { on := 10, ground := Ground.guard }], guard := some (10, false) }) (v := ?_) rfl (by kernel_rfl) (by kernel_rfl) (by kernel_rfl) (fun _ _ _ h => h) (Or.inl ⟨by rfl, ?_⟩) (by assumption) ?_
        rotate_left
        · intro w hSw
          (try dsimp only at hSw)
          first | (go_simp; done) | (go_simp; with_reducible rfl)
        (try simp only [Act.put, List.setIfInBounds_toArray, List.set_cons_zero, List.set_cons_succ])
        refine wpAnyH_take (i := 18) (oi := { dst := some 56, op := Op.fieldAddr 23 (Operand.tmp 55) 2, type := 0, pos := "law.go:39", after := #[{ on := 17, ground := Ground.data }, { on := 10, ground := Ground.guard }], guard := some (10, false) }) (v := ?_) rfl (by kernel_rfl) (by kernel_rfl) (by kernel_rfl) (fun _ _ _ h => h) (Or.inl ⟨by rfl, ?_⟩) (by assumption) ?_
        rotate_left
        · intro w hSw
          (try dsimp only at hSw)
          first | (go_simp; done) | (go_simp; with_reducible rfl)
        (try simp only [Act.put, List.setIfInBounds_toArray, List.set_cons_zero, List.set_cons_succ])
        refine wpAnyH_take (i := 19) (oi := { dst := some 57, op := Op.load 3 (Operand.tmp 56), type := 3, pos := "law.go:39", after := #[{ on := 18, ground := Ground.data }, { on := 10, ground := Ground.guard }], guard := some (10, false) }) (v := ?_) rfl (by kernel_rfl) (by kernel_rfl) (by kernel_rfl) (fun _ _ _ h => h) (Or.inl ⟨by rfl, ?_⟩) (by assumption) ?_
        rotate_left
        · intro w hSw
          (try dsimp only at hSw)
          first | (go_simp; done) | (go_simp; with_reducible rfl)
        (try simp only [Act.put, List.setIfInBounds_toArray, List.set_cons_zero, List.set_cons_succ])
        refine wpAnyH_take (i := 20) (oi := { dst := some 58, op := Op.binOp BinOp.leq 3 (Operand.tmp 50) (Operand.tmp 57) 3, type := 4, pos := "law.go:39", after := #[{ on := 12, ground := Ground.data }, { on := 19, ground := Ground.data }, { on := 10, ground := Ground.guard }], guard := some (10, false) }) (v := ?_) rfl (by kernel_rfl) (by kernel_rfl) (by kernel_rfl) (fun _ _ _ h => h) (Or.inl ⟨by rfl, ?_⟩) (by assumption) ?_
        rotate_left
        · intro w hSw
          (try dsimp only at hSw)
          first | (go_simp; done) | (go_simp; with_reducible rfl)
        (try simp only [Act.put, List.setIfInBounds_toArray, List.set_cons_zero, List.set_cons_succ])
        refine wpAnyH_take (i := 21) (oi := { dst := some 59, op := Op.pick (Operand.tmp 48) (Operand.const (Value.bool true)) (Operand.tmp 58), type := 4, pos := "law.go:39", after := #[{ on := 10, ground := Ground.data }, { on := 20, ground := Ground.data }, { on := 7, ground := Ground.guard }], guard := some (7, true) }) (v := ?_) rfl (by kernel_rfl) (by kernel_rfl) (by kernel_rfl) (fun _ _ _ h => h) (Or.inl ⟨by rfl, ?_⟩) (by assumption) ?_
        rotate_left
        · intro w hSw
          (try dsimp only at hSw)
          first | (go_simp; done) | (go_simp; with_reducible rfl)
        (try simp only [Act.put, List.setIfInBounds_toArray, List.set_cons_zero, List.set_cons_succ])
        refine wpAnyH_take (i := 22) (oi := { dst := some 60, op := Op.pick (Operand.tmp 45) (Operand.tmp 59) (Operand.const (Value.bool false)), type := 4, pos := "law.go:39", after := #[{ on := 7, ground := Ground.data }, { on := 21, ground := Ground.data }], guard := none }) (v := ?_) rfl (by kernel_rfl) (by kernel_rfl) (by kernel_rfl) (fun _ _ _ h => h) (Or.inl ⟨by rfl, ?_⟩) (by assumption) ?_
        rotate_left
        · intro w hSw
          (try dsimp only at hSw)
          first | (go_simp; done) | (go_simp; with_reducible rfl)
        (try simp only [Act.put, List.setIfInBounds_toArray, List.set_cons_zero, List.set_cons_succ])
        refine wpAnyH_take (i := 23) (oi := { dst := some 61, op := Op.move (Operand.tmp 60), type := 4, pos := "law.go:39", after := #[{ on := 22, ground := Ground.data }, { on := 10, ground := Ground.chain }], guard := none }) (v := ?_) rfl (by kernel_rfl) (by kernel_rfl) (by kernel_rfl) (fun _ _ _ h => h) (Or.inl ⟨by rfl, ?_⟩) (by assumption) ?_
        rotate_left
        · intro w hSw
          (try dsimp only at hSw)
          first | (go_simp; done) | (go_simp; with_reducible rfl)
        (try simp only [Act.put, List.setIfInBounds_toArray, List.set_cons_zero, List.set_cons_succ])
        refine wpAnyH_ready (rs := [24]) (by kernel_rfl) (by simp) ?_
        refine AllReadyH.cons (o := { dst := some 62, op := Op.call { callee := Callee.value (Operand.func 27), args := #[], argTypes := #[] }, type := 4, pos := "law.go:39", after := #[{ on := 23, ground := Ground.chain }, { on := 23, ground := Ground.guard }], guard := some (23, true) }) rfl (fun K hK => ?_) AllReadyH.nil
        go_simp
        refine (TW.out _).mono ?_
        rintro e wx ⟨rfl, jx⟩
        replace nc := nc.trans (jx.mono nc.size)
        clear jx
        refine hK.out _ _ (CS.out _ nc) (fun hHeld => ?_)
        clear hK K
        (try simp only [Act.put, List.setIfInBounds_toArray, List.set_cons_zero, List.set_cons_succ])
        refine wpAnyH_take (i := 25) (oi := { dst := some 63, op := Op.pick (Operand.tmp 61) (Operand.tmp 62) (Operand.const (Value.bool false)), type := 4, pos := "law.go:39", after := #[{ on := 23, ground := Ground.data }, { on := 24, ground := Ground.data }], guard := none }) (v := ?_) rfl (by kernel_rfl) (by kernel_rfl) (by kernel_rfl) (fun _ _ _ h => h) (Or.inl ⟨by rfl, ?_⟩) (by assumption) ?_
        rotate_left
        · intro w hSw
          (try dsimp only at hSw)
          first | (go_simp; done) | (go_simp; with_reducible rfl)
        (try simp only [Act.put, List.setIfInBounds_toArray, List.set_cons_zero, List.set_cons_succ])
        refine wpAnyH_take (i := 26) (oi := { dst := some 6, op := Op.assign (Operand.tmp 63), type := 4, pos := "law.go:39", after := #[{ on := 25, ground := Ground.data }, { on := 24, ground := Ground.chain }, { on := 0, ground := Ground.phase }, { on := 1, ground := Ground.phase }, { on := 2, ground := Ground.phase }, { on := 3, ground := Ground.phase }, { on := 4, ground := Ground.phase }, { on := 5, ground := Ground.phase }, { on := 6, ground := Ground.phase }, { on := 7, ground := Ground.phase }, { on := 8, ground := Ground.phase }, { on := 9, ground := Ground.phase }, { on := 10, ground := Ground.phase }, { on := 11, ground := Ground.phase }, { on := 12, ground := Ground.phase }, { on := 13, ground := Ground.phase }, { on := 14, ground := Ground.phase }, { on := 15, ground := Ground.phase }, { on := 16, ground := Ground.phase }, { on := 17, ground := Ground.phase }, { on := 18, ground := Ground.phase }, { on := 19, ground := Ground.phase }, { on := 20, ground := Ground.phase }, { on := 21, ground := Ground.phase }, { on := 22, ground := Ground.phase }, { on := 23, ground := Ground.phase }, { on := 24, ground := Ground.phase }, { on := 25, ground := Ground.phase }], guard := none }) (v := ?_) rfl (by kernel_rfl) (by kernel_rfl) (by kernel_rfl) (fun _ _ _ h => h) (Or.inl ⟨by rfl, ?_⟩) (by assumption) ?_
        rotate_left
        · intro w hSw
          (try dsimp only at hSw)
          first | (go_simp; done) | (go_simp; with_reducible rfl)
        (try simp only [Act.put, List.setIfInBounds_toArray, List.set_cons_zero, List.set_cons_succ])
        refine wpAnyH_done (by kernel_rfl) ?_ _
        have L := CB.out _ nc
        clear CS hHeld
        go_wp2
        go_ret
        exact ⟨rfl, L⟩
  have hok : setOk T b (ec, ep, eg, et) = true := by simpa using hok
  have hV : setV T b (ec, ep, eg, et) = upd (setR T b.toNat (ec, ep, eg, et)) 0 (T 0 + 1) := by unfold setV; rw [hok]; rfl
  have hN : setN T b (ec, ep, eg, et) = 0 := by unfold setN; rw [hok]; rfl
  rw [hV] at CB
  rw [hV, hN]
  simp only [setOk, Bool.and_eq_true, decide_eq_true_eq, Bool.not_eq_true', beq_eq_false_iff_ne] at hok
  obtain ⟨⟨⟨⟨⟨hr, hr'⟩, hb0⟩, hb1⟩, hv⟩, hg⟩ := hok
  obtain ⟨k, rfl⟩ : ∃ k : Nat, b = (k : Int) := ⟨b.toNat, by omega⟩
  have hk : k < 16 := by omega
  simp only [Int.toNat_natCast] at CB hg ⊢
  have hver := (rgT_iff.1 hr).1
  have hVR := Lib.hid (set_right (k := k) hr hr' hv)
  have KR := Lib.hid (fun W => hVR.out ▸ r10Right_any (upd (setR T k (ec, ep, eg, et)) 0 (T 0 + 1)) W)
  have hwr : IntKind.i64.wrap (T 0 + 1) = T 0 + 1 := IntWalk.i64_in _ (by omega)
  have HBK := Lib.hid (set_back T k (ec, ep, eg, et) (T 0 + 1))
  have HW := Lib.hid (fun W (m : NB A1 26 65 (upd (setR T k (ec, ep, eg, et)) 0 (T 0 + 1)) W) => nb_put (nb_row m k (rowT T k)) 0 (T 0))
  have CA := Lib.hid (fun W (m : Below W1.heap.size W1 W) => show W.rangeAt A1 (1 + k * 4) (entC (ec, ep, eg, et)) by rw [← setR_row T k (ec, ep, eg, et) (T 0 + 1)]; exact rng_row (CB.out W m).2.2.1 k hk)
  have CV := Lib.hid (fun W (m : Below W1.heap.size W1 W) => show W.cell? ⟨A1, 0, none⟩ = some (.int .i64 (T 0 + 1)) from nb_cell (CB.out W m).2.2.1 (by omega))
  have CR := Lib.hid (fun W (m : Below W1.heap.size W1 W) => rng_row (CB.out W m).1 k hk)
  have CRR := Lib.hid (fun W (m : NB w.heap.size 26 65 T W) => rng_row m k hk)
  have COO := Lib.hid (fun W (m : NB w.heap.size 26 65 T W) => show W.cell? ⟨w.heap.size, 0, none⟩ = some (.int .i64 (T 0)) from nb_cell m (by omega))
  have CO := Lib.hid (fun W (m : Below W1.heap.size W1 W) => show W.cell? ⟨w.heap.size, 0, none⟩ = some (.int .i64 (T 0)) from nb_cell (CB.out W m).1 (by omega))
  have CL := Lib.hid (fun W (m : Below W1.heap.size W1 W) => ld_tab (CB.out W m).2.2.1)
  generalize hVV : upd (setR T k (ec, ep, eg, et)) 0 (T 0 + 1) = VV at *
  generalize rowT T k = tr at *
  obtain ⟨t0, t1, t2, t3⟩ := tr
  generalize T 0 = v0 at *
  have CS := Lib.hid (fun W (m : Below W1.heap.size W1 W) => show (ldS 26 (.pointer (some ⟨A1, 0, none⟩))).run Try.prog W = .ok (tabV VV) W ∧ W.cell? ⟨A1, 0, none⟩ = some (.int .i64 (v0 + 1)) ∧ W.cell? ⟨w.heap.size, 0, none⟩ = some (.int .i64 v0) ∧ W.cell? ⟨A1, 1 + k * 4, none⟩ = some (.int .i64 ec) ∧ W.cell? ⟨A1, 1 + k * 4 + 1, none⟩ = some (.int .i64 ep) ∧ W.cell? ⟨A1, 1 + k * 4 + 2, none⟩ = some (.int .i64 eg) ∧ W.cell? ⟨A1, 1 + k * 4 + 3, none⟩ = some (.int .i64 et) ∧ W.cell? ⟨w.heap.size, 1 + k * 4 + 2, none⟩ = some (.int .i64 t2) ∧ W.cell? ⟨w.heap.size + 1, 0, none⟩ = some (.int .i64 ec) ∧ W.cell? ⟨w.heap.size + 1, 1, none⟩ = some (.int .i64 ep) ∧ W.cell? ⟨w.heap.size + 1, 2, none⟩ = some (.int .i64 eg) ∧ W.cell? ⟨w.heap.size + 1, 3, none⟩ = some (.int .i64 et) from
    ⟨CL.out W m, CV.out W m, CO.out W m, (ent_of_range _ _ _ _ (CA.out W m)).1, (ent_of_range _ _ _ _ (CA.out W m)).2.1, (ent_of_range _ _ _ _ (CA.out W m)).2.2.1, (ent_of_range _ _ _ _ (CA.out W m)).2.2.2, (ent_of_range _ _ _ _ (CR.out W m)).2.2.1, ent_cells _ _ _ _ (CB.out W m).2.1⟩)
  have hk1 : (k : Int) < 16 := by omega
  have hk0 : (0 : Int) ≤ (k : Int) := by omega
  have e1 : decide ((k : Int) < 0) = false := decide_eq_false (by omega)
  have e2 : decide ((16 : Int) ≤ (k : Int)) = false := decide_eq_false (by omega)
  have e3 : decide (eg ≤ t2) = false := decide_eq_false (by simp only at hg; omega)
  have e4 : (v0 + 1 != v0 + 1) = false := by simp
  have hne : ∀ W : World, (Go.binOp .neq 23 (.agg #[.int .i64 ec, .int .i64 ep, .int .i64 eg, .int .i64 et]) (.agg #[.int .i64 ec, .int .i64 ep, .int .i64 eg, .int .i64 et])).run Try.prog W = .ok (.bool false) W := fun W => by rw [run_neE, eqE_same]; rfl
  replace nc := nc.drew
  clear hV hN hr hr' hb0 hb1 hv hg hver hVV
  go_upto_region 5 with fail
  refine wp_region_held_drew (S := fun W => (ldS 26 (.pointer (some ⟨A1, 0, none⟩))).run Try.prog W = .ok (tabV VV) W ∧ W.cell? ⟨A1, 0, none⟩ = some (.int .i64 (v0 + 1)) ∧ W.cell? ⟨w.heap.size, 0, none⟩ = some (.int .i64 v0) ∧ W.cell? ⟨A1, 1 + k * 4, none⟩ = some (.int .i64 ec) ∧ W.cell? ⟨A1, 1 + k * 4 + 1, none⟩ = some (.int .i64 ep) ∧ W.cell? ⟨A1, 1 + k * 4 + 2, none⟩ = some (.int .i64 eg) ∧ W.cell? ⟨A1, 1 + k * 4 + 3, none⟩ = some (.int .i64 et) ∧ W.cell? ⟨w.heap.size, 1 + k * 4 + 2, none⟩ = some (.int .i64 t2) ∧ W.cell? ⟨w.heap.size + 1, 0, none⟩ = some (.int .i64 ec) ∧ W.cell? ⟨w.heap.size + 1, 1, none⟩ = some (.int .i64 ep) ∧ W.cell? ⟨w.heap.size + 1, 2, none⟩ = some (.int .i64 eg) ∧ W.cell? ⟨w.heap.size + 1, 3, none⟩ = some (.int .i64 et)) (by kernel_rfl) (CS.out _ nc) (fun hHeld => ?_)
  refine wpAnyH_take (i := 0) (oi := { dst := some 64, op := Op.move (Operand.tmp 1), type := 3, pos := "law.go:41", after := #[], guard := none }) (v := ?_) rfl (by kernel_rfl) (by kernel_rfl) (by kernel_rfl) (fun _ _ _ h => h) (Or.inl ⟨by rfl, ?_⟩) (by assumption) ?_
  rotate_left
  · intro w hSw
    (try dsimp only at hSw)
    first | (go_simp; done) | (go_simp; with_reducible rfl)
  (try simp only [Act.put, List.setIfInBounds_toArray, List.set_cons_zero, List.set_cons_succ])
  refine wpAnyH_take (i := 1) (oi := { dst := some 65, op := Op.binOp BinOp.lss 3 (Operand.tmp 64) (Operand.const (Value.int IntKind.i64 0)) 3, type := 4, pos := "law.go:41", after := #[{ on := 0, ground := Ground.data }], guard := none }) (v := ?_) rfl (by kernel_rfl) (by kernel_rfl) (by kernel_rfl) (fun _ _ _ h => h) (Or.inl ⟨by rfl, ?_⟩) (by assumption) ?_
  rotate_left
  · intro w hSw
    (try dsimp only at hSw)
    first | (go_simp; done) | (go_simp; with_reducible rfl)
  (try simp only [Act.put, List.setIfInBounds_toArray, List.set_cons_zero, List.set_cons_succ])
  refine wpAnyH_take (i := 2) (oi := { dst := some 66, op := Op.move (Operand.tmp 65), type := 4, pos := "law.go:41", after := #[{ on := 1, ground := Ground.data }], guard := none }) (v := ?_) rfl (by kernel_rfl) (by kernel_rfl) (by kernel_rfl) (fun _ _ _ h => h) (Or.inl ⟨by rfl, ?_⟩) (by assumption) ?_
  rotate_left
  · intro w hSw
    (try dsimp only at hSw)
    first | (go_simp; done) | (go_simp; with_reducible rfl)
  (try simp only [Act.put, List.setIfInBounds_toArray, List.set_cons_zero, List.set_cons_succ])
  refine wpAnyH_take (i := 3) (oi := { dst := some 67, op := Op.move (Operand.tmp 1), type := 3, pos := "law.go:41", after := #[{ on := 2, ground := Ground.guard }], guard := some (2, false) }) (v := ?_) rfl (by kernel_rfl) (by kernel_rfl) (by kernel_rfl) (fun _ _ _ h => h) (Or.inl ⟨by rfl, ?_⟩) (by assumption) ?_
  rotate_left
  · intro w hSw
    (try dsimp only at hSw)
    first | (go_simp; done) | (go_simp; with_reducible rfl)
  (try simp only [Act.put, List.setIfInBounds_toArray, List.set_cons_zero, List.set_cons_succ])
  refine wpAnyH_take (i := 4) (oi := { dst := some 68, op := Op.binOp BinOp.geq 3 (Operand.tmp 67) (Operand.const (Value.int IntKind.i64 16)) 3, type := 4, pos := "law.go:41", after := #[{ on := 3, ground := Ground.data }, { on := 2, ground := Ground.guard }], guard := some (2, false) }) (v := ?_) rfl (by kernel_rfl) (by kernel_rfl) (by kernel_rfl) (fun _ _ _ h => h) (Or.inl ⟨by rfl, ?_⟩) (by assumption) ?_
  rotate_left
  · intro w hSw
    (try dsimp only at hSw)
    first | (go_simp; done) | (go_simp; with_reducible rfl)
  (try simp only [Act.put, List.setIfInBounds_toArray, List.set_cons_zero, List.set_cons_succ])
  refine wpAnyH_take (i := 5) (oi := { dst := some 69, op := Op.pick (Operand.tmp 66) (Operand.const (Value.bool true)) (Operand.tmp 68), type := 4, pos := "law.go:41", after := #[{ on := 2, ground := Ground.data }, { on := 4, ground := Ground.data }], guard := none }) (v := ?_) rfl (by kernel_rfl) (by kernel_rfl) (by kernel_rfl) (fun _ _ _ h => h) (Or.inl ⟨by rfl, ?_⟩) (by assumption) ?_
  rotate_left
  · intro w hSw
    (try dsimp only at hSw)
    first | (go_simp; done) | (go_simp; with_reducible rfl)
  (try simp only [Act.put, List.setIfInBounds_toArray, List.set_cons_zero, List.set_cons_succ])
  refine wpAnyH_take (i := 6) (oi := { dst := some 70, op := Op.move (Operand.tmp 69), type := 4, pos := "law.go:41", after := #[{ on := 5, ground := Ground.data }, { on := 2, ground := Ground.chain }], guard := none }) (v := ?_) rfl (by kernel_rfl) (by kernel_rfl) (by kernel_rfl) (fun _ _ _ h => h) (Or.inl ⟨by rfl, ?_⟩) (by assumption) ?_
  rotate_left
  · intro w hSw
    (try dsimp only at hSw)
    first | (go_simp; done) | (go_simp; with_reducible rfl)
  (try simp only [Act.put, List.setIfInBounds_toArray, List.set_cons_zero, List.set_cons_succ])
  refine wpAnyH_take (i := 7) (oi := { dst := some 71, op := Op.load 26 (Operand.tmp 7), type := 26, pos := "law.go:41", after := #[{ on := 6, ground := Ground.guard }], guard := some (6, false) }) (v := ?_) rfl (by kernel_rfl) (by kernel_rfl) (by kernel_rfl) (fun _ _ _ h => h) (Or.inl ⟨by rfl, ?_⟩) (by assumption) ?_
  rotate_left
  · intro w hSw
    (try dsimp only at hSw)
    first | (go_simp; done) | (go_simp; with_reducible rfl)
  (try simp only [Act.put, List.setIfInBounds_toArray, List.set_cons_zero, List.set_cons_succ])
  refine wpAnyH_ready (rs := [8]) (by kernel_rfl) (by simp) ?_
  refine AllReadyH.cons (o := { dst := some 72, op := Op.call { callee := Callee.value (Operand.func 13), args := #[Operand.tmp 71], argTypes := #[26] }, type := 4, pos := "law.go:41", after := #[{ on := 7, ground := Ground.data }, { on := 6, ground := Ground.chain }, { on := 6, ground := Ground.guard }], guard := some (6, false) }) rfl (fun K hK => ?_) AllReadyH.nil
  go_simp
  refine (KR.out _).mono ?_
  rintro e wx ⟨rfl, jx⟩
  replace nc := nc.trans (jx.mono nc.size)
  clear jx
  refine hK.out _ _ (CS.out _ nc) (fun hNew => ?_)
  clear hK K hHeld
  have hHeld := hNew
  clear hNew
  (try simp only [Act.put, List.setIfInBounds_toArray, List.set_cons_zero, List.set_cons_succ])
  refine wpAnyH_take (i := 9) (oi := { dst := some 73, op := Op.unOp UnOp.not 4 (Operand.tmp 72), type := 4, pos := "law.go:41", after := #[{ on := 8, ground := Ground.data }, { on := 6, ground := Ground.guard }], guard := some (6, false) }) (v := ?_) rfl (by kernel_rfl) (by kernel_rfl) (by kernel_rfl) (fun _ _ _ h => h) (Or.inl ⟨by rfl, ?_⟩) (by assumption) ?_
  rotate_left
  · intro w hSw
    (try dsimp only at hSw)
    first | (go_simp; done) | (go_simp; with_reducible rfl)
  (try simp only [Act.put, List.setIfInBounds_toArray, List.set_cons_zero, List.set_cons_succ])
  refine wpAnyH_take (i := 10) (oi := { dst := some 74, op := Op.pick (Operand.tmp 70) (Operand.const (Value.bool true)) (Operand.tmp 73), type := 4, pos := "law.go:41", after := #[{ on := 6, ground := Ground.data }, { on := 9, ground := Ground.data }], guard := none }) (v := ?_) rfl (by kernel_rfl) (by kernel_rfl) (by kernel_rfl) (fun _ _ _ h => h) (Or.inl ⟨by rfl, ?_⟩) (by assumption) ?_
  rotate_left
  · intro w hSw
    (try dsimp only at hSw)
    first | (go_simp; done) | (go_simp; with_reducible rfl)
  (try simp only [Act.put, List.setIfInBounds_toArray, List.set_cons_zero, List.set_cons_succ])
  refine wpAnyH_take (i := 11) (oi := { dst := some 75, op := Op.move (Operand.tmp 74), type := 4, pos := "law.go:41", after := #[{ on := 10, ground := Ground.data }, { on := 8, ground := Ground.chain }], guard := none }) (v := ?_) rfl (by kernel_rfl) (by kernel_rfl) (by kernel_rfl) (fun _ _ _ h => h) (Or.inl ⟨by rfl, ?_⟩) (by assumption) ?_
  rotate_left
  · intro w hSw
    (try dsimp only at hSw)
    first | (go_simp; done) | (go_simp; with_reducible rfl)
  (try simp only [Act.put, List.setIfInBounds_toArray, List.set_cons_zero, List.set_cons_succ])
  refine wpAnyH_take (i := 12) (oi := { dst := some 76, op := Op.fieldAddr 26 (Operand.tmp 7) 0, type := 0, pos := "law.go:41", after := #[{ on := 11, ground := Ground.guard }], guard := some (11, false) }) (v := ?_) rfl (by kernel_rfl) (by kernel_rfl) (by kernel_rfl) (fun _ _ _ h => h) (Or.inl ⟨by rfl, ?_⟩) (by assumption) ?_
  rotate_left
  · intro w hSw
    (try dsimp only at hSw)
    first | (go_simp; done) | (go_simp; with_reducible rfl)
  (try simp only [Act.put, List.setIfInBounds_toArray, List.set_cons_zero, List.set_cons_succ])
  refine wpAnyH_take (i := 13) (oi := { dst := some 77, op := Op.load 3 (Operand.tmp 76), type := 3, pos := "law.go:41", after := #[{ on := 12, ground := Ground.data }, { on := 11, ground := Ground.guard }], guard := some (11, false) }) (v := ?_) rfl (by kernel_rfl) (by kernel_rfl) (by kernel_rfl) (fun _ _ _ h => h) (Or.inl ⟨by rfl, ?_⟩) (by assumption) ?_
  rotate_left
  · intro w hSw
    (try dsimp only at hSw)
    first | (go_simp; done) | (go_simp; with_reducible rfl)
  (try simp only [Act.put, List.setIfInBounds_toArray, List.set_cons_zero, List.set_cons_succ])
  refine wpAnyH_take (i := 14) (oi := { dst := some 78, op := Op.fieldAddr 26 (Operand.tmp 3) 0, type := 0, pos := "law.go:41", after := #[{ on := 11, ground := Ground.guard }], guard := some (11, false) }) (v := ?_) rfl (by kernel_rfl) (by kernel_rfl) (by kernel_rfl) (fun _ _ _ h => h) (Or.inl ⟨by rfl, ?_⟩) (by assumption) ?_
  rotate_left
  · intro w hSw
    (try dsimp only at hSw)
    first | (go_simp; done) | (go_simp; with_reducible rfl)
  (try simp only [Act.put, List.setIfInBounds_toArray, List.set_cons_zero, List.set_cons_succ])
  refine wpAnyH_take (i := 15) (oi := { dst := some 79, op := Op.load 3 (Operand.tmp 78), type := 3, pos := "law.go:41", after := #[{ on := 14, ground := Ground.data }, { on := 11, ground := Ground.guard }], guard := some (11, false) }) (v := ?_) rfl (by kernel_rfl) (by kernel_rfl) (by kernel_rfl) (fun _ _ _ h => h) (Or.inl ⟨by rfl, ?_⟩) (by assumption) ?_
  rotate_left
  · intro w hSw
    (try dsimp only at hSw)
    first | (go_simp; done) | (go_simp; with_reducible rfl)
  (try simp only [Act.put, List.setIfInBounds_toArray, List.set_cons_zero, List.set_cons_succ])
  refine wpAnyH_take (i := 16) (oi := { dst := some 80, op := Op.binOp BinOp.add 3 (Operand.tmp 79) (Operand.const (Value.int IntKind.i64 1)) 3, type := 3, pos := "law.go:41", after := #[{ on := 15, ground := Ground.data }, { on := 11, ground := Ground.guard }], guard := some (11, false) }) (v := ?_) rfl (by kernel_rfl) (by kernel_rfl) (by kernel_rfl) (fun _ _ _ h => h) (Or.inl ⟨by rfl, ?_⟩) (by assumption) ?_
  rotate_left
  · intro w hSw
    (try dsimp only at hSw)
    first | (go_simp; done) | (go_simp; with_reducible rfl)
  (try simp only [Act.put, List.setIfInBounds_toArray, List.set_cons_zero, List.set_cons_succ])
  refine wpAnyH_take (i := 17) (oi := { dst := some 81, op := Op.binOp BinOp.neq 3 (Operand.tmp 77) (Operand.tmp 80) 3, type := 4, pos := "law.go:41", after := #[{ on := 13, ground := Ground.data }, { on := 16, ground := Ground.data }, { on := 11, ground := Ground.guard }], guard := some (11, false) }) (v := ?_) rfl (by kernel_rfl) (by kernel_rfl) (by kernel_rfl) (fun _ _ _ h => h) (Or.inl ⟨by rfl, ?_⟩) (by assumption) ?_
  rotate_left
  · intro w hSw
    (try dsimp only at hSw)
    first | (go_simp; done) | (go_simp; with_reducible rfl)
  (try simp only [Act.put, List.setIfInBounds_toArray, List.set_cons_zero, List.set_cons_succ])
  refine wpAnyH_take (i := 18) (oi := { dst := some 82, op := Op.pick (Operand.tmp 75) (Operand.const (Value.bool true)) (Operand.tmp 81), type := 4, pos := "law.go:41", after := #[{ on := 11, ground := Ground.data }, { on := 17, ground := Ground.data }], guard := none }) (v := ?_) rfl (by kernel_rfl) (by kernel_rfl) (by kernel_rfl) (fun _ _ _ h => h) (Or.inl ⟨by rfl, ?_⟩) (by assumption) ?_
  rotate_left
  · intro w hSw
    (try dsimp only at hSw)
    first | (go_simp; done) | (go_simp; with_reducible rfl)
  (try simp only [Act.put, List.setIfInBounds_toArray, List.set_cons_zero, List.set_cons_succ])
  refine wpAnyH_take (i := 19) (oi := { dst := some 83, op := Op.move (Operand.tmp 82), type := 4, pos := "law.go:41", after := #[{ on := 18, ground := Ground.data }, { on := 11, ground := Ground.chain }], guard := none }) (v := ?_) rfl (by kernel_rfl) (by kernel_rfl) (by kernel_rfl) (fun _ _ _ h => h) (Or.inl ⟨by rfl, ?_⟩) (by assumption) ?_
  rotate_left
  · intro w hSw
    (try dsimp only at hSw)
    first | (go_simp; done) | (go_simp; with_reducible rfl)
  (try simp only [Act.put, List.setIfInBounds_toArray, List.set_cons_zero, List.set_cons_succ])
  refine wpAnyH_take (i := 20) (oi := { dst := some 84, op := Op.move (Operand.tmp 1), type := 3, pos := "law.go:41", after := #[{ on := 19, ground := Ground.guard }], guard := some (19, false) }) (v := ?_) rfl (by kernel_rfl) (by kernel_rfl) (by kernel_rfl) (fun _ _ _ h => h) (Or.inl ⟨by rfl, ?_⟩) (by assumption) ?_
  rotate_left
  · intro w hSw
    (try dsimp only at hSw)
    first | (go_simp; done) | (go_simp; with_reducible rfl)
  (try simp only [Act.put, List.setIfInBounds_toArray, List.set_cons_zero, List.set_cons_succ])
  refine wpAnyH_take (i := 21) (oi := { dst := some 85, op := Op.fieldAddr 26 (Operand.tmp 7) 1, type := 0, pos := "law.go:41", after := #[{ on := 19, ground := Ground.guard }], guard := some (19, false) }) (v := ?_) rfl (by kernel_rfl) (by kernel_rfl) (by kernel_rfl) (fun _ _ _ h => h) (Or.inl ⟨by rfl, ?_⟩) (by assumption) ?_
  rotate_left
  · intro w hSw
    (try dsimp only at hSw)
    first | (go_simp; done) | (go_simp; with_reducible rfl)
  (try simp only [Act.put, List.setIfInBounds_toArray, List.set_cons_zero, List.set_cons_succ])
  refine wpAnyH_take (i := 22) (oi := { dst := some 86, op := Op.indexAddr 24 (Operand.tmp 85) (Operand.tmp 84), type := 0, pos := "law.go:41", after := #[{ on := 21, ground := Ground.data }, { on := 20, ground := Ground.data }, { on := 19, ground := Ground.guard }], guard := some (19, false) }) (v := ?_) rfl (by kernel_rfl) (by kernel_rfl) (by kernel_rfl) (fun _ _ _ h => h) (Or.inl ⟨by rfl, ?_⟩) (by assumption) ?_
  rotate_left
  · intro w hSw
    (try dsimp only at hSw)
    first | (go_simp; done) | (go_simp; with_reducible rfl)
  (try simp only [Act.put, List.setIfInBounds_toArray, List.set_cons_zero, List.set_cons_succ])
  refine wpAnyH_take (i := 23) (oi := { dst := some 87, op := Op.load 23 (Operand.tmp 86), type := 23, pos := "law.go:41", after := #[{ on := 22, ground := Ground.data }, { on := 19, ground := Ground.guard }], guard := some (19, false) }) (v := ?_) rfl (by kernel_rfl) (by kernel_rfl) (by kernel_rfl) (fun _ _ _ h => h) (Or.inl ⟨by rfl, ?_⟩) (by assumption) ?_
  rotate_left
  · intro w hSw
    (try dsimp only at hSw)
    first | (go_simp; done) | (go_simp; with_reducible rfl)
  (try simp only [Act.put, List.setIfInBounds_toArray, List.set_cons_zero, List.set_cons_succ])
  refine wpAnyH_take (i := 24) (oi := { dst := some 88, op := Op.load 23 (Operand.tmp 5), type := 23, pos := "law.go:41", after := #[{ on := 19, ground := Ground.guard }], guard := some (19, false) }) (v := ?_) rfl (by kernel_rfl) (by kernel_rfl) (by kernel_rfl) (fun _ _ _ h => h) (Or.inl ⟨by rfl, ?_⟩) (by assumption) ?_
  rotate_left
  · intro w hSw
    (try dsimp only at hSw)
    first | (go_simp; done) | (go_simp; with_reducible rfl)
  (try simp only [Act.put, List.setIfInBounds_toArray, List.set_cons_zero, List.set_cons_succ])
  refine wpAnyH_take (i := 25) (oi := { dst := some 89, op := Op.binOp BinOp.neq 23 (Operand.tmp 87) (Operand.tmp 88) 23, type := 4, pos := "law.go:41", after := #[{ on := 23, ground := Ground.data }, { on := 24, ground := Ground.data }, { on := 19, ground := Ground.guard }], guard := some (19, false) }) (v := ?_) rfl (by kernel_rfl) (by kernel_rfl) (by kernel_rfl) (fun _ _ _ h => h) (Or.inl ⟨by rfl, ?_⟩) (by assumption) ?_
  rotate_left
  · intro w hSw
    (try dsimp only at hSw)
    first | (go_simp; done) | (go_simp; with_reducible rfl)
  (try simp only [Act.put, List.setIfInBounds_toArray, List.set_cons_zero, List.set_cons_succ])
  refine wpAnyH_take (i := 26) (oi := { dst := some 90, op := Op.pick (Operand.tmp 83) (Operand.const (Value.bool true)) (Operand.tmp 89), type := 4, pos := "law.go:41", after := #[{ on := 19, ground := Ground.data }, { on := 25, ground := Ground.data }], guard := none }) (v := ?_) rfl (by kernel_rfl) (by kernel_rfl) (by kernel_rfl) (fun _ _ _ h => h) (Or.inl ⟨by rfl, ?_⟩) (by assumption) ?_
  rotate_left
  · intro w hSw
    (try dsimp only at hSw)
    first | (go_simp; done) | (go_simp; with_reducible rfl)
  (try simp only [Act.put, List.setIfInBounds_toArray, List.set_cons_zero, List.set_cons_succ])
  refine wpAnyH_take (i := 27) (oi := { dst := some 91, op := Op.move (Operand.tmp 90), type := 4, pos := "law.go:41", after := #[{ on := 26, ground := Ground.data }, { on := 19, ground := Ground.chain }], guard := none }) (v := ?_) rfl (by kernel_rfl) (by kernel_rfl) (by kernel_rfl) (fun _ _ _ h => h) (Or.inl ⟨by rfl, ?_⟩) (by assumption) ?_
  rotate_left
  · intro w hSw
    (try dsimp only at hSw)
    first | (go_simp; done) | (go_simp; with_reducible rfl)
  (try simp only [Act.put, List.setIfInBounds_toArray, List.set_cons_zero, List.set_cons_succ])
  refine wpAnyH_take (i := 28) (oi := { dst := some 92, op := Op.fieldAddr 23 (Operand.tmp 5) 2, type := 0, pos := "law.go:41", after := #[{ on := 27, ground := Ground.guard }], guard := some (27, false) }) (v := ?_) rfl (by kernel_rfl) (by kernel_rfl) (by kernel_rfl) (fun _ _ _ h => h) (Or.inl ⟨by rfl, ?_⟩) (by assumption) ?_
  rotate_left
  · intro w hSw
    (try dsimp only at hSw)
    first | (go_simp; done) | (go_simp; with_reducible rfl)
  (try simp only [Act.put, List.setIfInBounds_toArray, List.set_cons_zero, List.set_cons_succ])
  refine wpAnyH_take (i := 29) (oi := { dst := some 93, op := Op.load 3 (Operand.tmp 92), type := 3, pos := "law.go:41", after := #[{ on := 28, ground := Ground.data }, { on := 27, ground := Ground.guard }], guard := some (27, false) }) (v := ?_) rfl (by kernel_rfl) (by kernel_rfl) (by kernel_rfl) (fun _ _ _ h => h) (Or.inl ⟨by rfl, ?_⟩) (by assumption) ?_
  rotate_left
  · intro w hSw
    (try dsimp only at hSw)
    first | (go_simp; done) | (go_simp; with_reducible rfl)
  (try simp only [Act.put, List.setIfInBounds_toArray, List.set_cons_zero, List.set_cons_succ])
  refine wpAnyH_take (i := 30) (oi := { dst := some 94, op := Op.move (Operand.tmp 1), type := 3, pos := "law.go:41", after := #[{ on := 27, ground := Ground.guard }], guard := some (27, false) }) (v := ?_) rfl (by kernel_rfl) (by kernel_rfl) (by kernel_rfl) (fun _ _ _ h => h) (Or.inl ⟨by rfl, ?_⟩) (by assumption) ?_
  rotate_left
  · intro w hSw
    (try dsimp only at hSw)
    first | (go_simp; done) | (go_simp; with_reducible rfl)
  (try simp only [Act.put, List.setIfInBounds_toArray, List.set_cons_zero, List.set_cons_succ])
  refine wpAnyH_take (i := 31) (oi := { dst := some 95, op := Op.fieldAddr 26 (Operand.tmp 3) 1, type := 0, pos := "law.go:41", after := #[{ on := 27, ground := Ground.guard }], guard := some (27, false) }) (v := ?_) rfl (by kernel_rfl) (by kernel_rfl) (by kernel_rfl) (fun _ _ _ h => h) (Or.inl ⟨by rfl, ?_⟩) (by assumption) ?_
  rotate_left
  · intro w hSw
    (try dsimp only at hSw)
    first | (go_simp; done) | (go_simp; with_reducible rfl)
  (try simp only [Act.put, List.setIfInBounds_toArray, List.set_cons_zero, List.set_cons_succ])
  refine wpAnyH_take (i := 32) (oi := { dst := some 96, op := Op.indexAddr 24 (Operand.tmp 95) (Operand.tmp 94), type := 0, pos := "law.go:41", after := #[{ on := 31, ground := Ground.data }, { on := 30, ground := Ground.data }, { on := 27, ground := Ground.guard }], guard := some (27, false) }) (v := ?_) rfl (by kernel_rfl) (by kernel_rfl) (by kernel_rfl) (fun _ _ _ h => h) (Or.inl ⟨by rfl, ?_⟩) (by assumption) ?_
  rotate_left
  · intro w hSw
    (try dsimp only at hSw)
    first | (go_simp; done) | (go_simp; with_reducible rfl)
  (try simp only [Act.put, List.setIfInBounds_toArray, List.set_cons_zero, List.set_cons_succ])
  refine wpAnyH_take (i := 33) (oi := { dst := some 97, op := Op.fieldAddr 23 (Operand.tmp 96) 2, type := 0, pos := "law.go:41", after := #[{ on := 32, ground := Ground.data }, { on := 27, ground := Ground.guard }], guard := some (27, false) }) (v := ?_) rfl (by kernel_rfl) (by kernel_rfl) (by kernel_rfl) (fun _ _ _ h => h) (Or.inl ⟨by rfl, ?_⟩) (by assumption) ?_
  rotate_left
  · intro w hSw
    (try dsimp only at hSw)
    first | (go_simp; done) | (go_simp; with_reducible rfl)
  (try simp only [Act.put, List.setIfInBounds_toArray, List.set_cons_zero, List.set_cons_succ])
  refine wpAnyH_take (i := 34) (oi := { dst := some 98, op := Op.load 3 (Operand.tmp 97), type := 3, pos := "law.go:41", after := #[{ on := 33, ground := Ground.data }, { on := 27, ground := Ground.guard }], guard := some (27, false) }) (v := ?_) rfl (by kernel_rfl) (by kernel_rfl) (by kernel_rfl) (fun _ _ _ h => h) (Or.inl ⟨by rfl, ?_⟩) (by assumption) ?_
  rotate_left
  · intro w hSw
    (try dsimp only at hSw)
    first | (go_simp; done) | (go_simp; with_reducible rfl)
  (try simp only [Act.put, List.setIfInBounds_toArray, List.set_cons_zero, List.set_cons_succ])
  refine wpAnyH_take (i := 35) (oi := { dst := some 99, op := Op.binOp BinOp.leq 3 (Operand.tmp 93) (Operand.tmp 98) 3, type := 4, pos := "law.go:41", after := #[{ on := 29, ground := Ground.data }, { on := 34, ground := Ground.data }, { on := 27, ground := Ground.guard }], guard := some (27, false) }) (v := ?_) rfl (by kernel_rfl) (by kernel_rfl) (by kernel_rfl) (fun _ _ _ h => h) (Or.inl ⟨by rfl, ?_⟩) (by assumption) ?_
  rotate_left
  · intro w hSw
    (try dsimp only at hSw)
    first | (go_simp; done) | (go_simp; with_reducible rfl)
  (try simp only [Act.put, List.setIfInBounds_toArray, List.set_cons_zero, List.set_cons_succ])
  refine wpAnyH_take (i := 36) (oi := { dst := some 100, op := Op.pick (Operand.tmp 91) (Operand.const (Value.bool true)) (Operand.tmp 99), type := 4, pos := "law.go:41", after := #[{ on := 27, ground := Ground.data }, { on := 35, ground := Ground.data }], guard := none }) (v := ?_) rfl (by kernel_rfl) (by kernel_rfl) (by kernel_rfl) (fun _ _ _ h => h) (Or.inl ⟨by rfl, ?_⟩) (by assumption) ?_
  rotate_left
  · intro w hSw
    (try dsimp only at hSw)
    first | (go_simp; done) | (go_simp; with_reducible rfl)
  (try simp only [Act.put, List.setIfInBounds_toArray, List.set_cons_zero, List.set_cons_succ])
  refine wpAnyH_done (by kernel_rfl) ?_ _
  go_upto_region 7 with fail
  obtain ⟨bT, bE, bA, L5⟩ := CB.out _ nc
  obtain ⟨y0, y1, y2, y3⟩ := ent_of_range _ _ _ _ (CA.out _ nc)
  obtain ⟨x0, x1, x2, x3⟩ := ent_of_range _ _ _ _ (CR.out _ nc)
  have o0 := CO.out _ nc
  have a0 := CV.out _ nc
  have f0 := nb_frozen bA (1 + k * 4)
  have f1 := nb_frozen bA (1 + k * 4 + 1)
  have f2 := nb_frozen bA (1 + k * 4 + 2)
  have f3 := nb_frozen bA (1 + k * 4 + 3)
  have f4 := nb_frozen bA 0
  have haw := HAW.out
  clear hHeld nc CA CB CV CR CO CL CS KR hVR hwr hne e1 e2 e3 e4
  generalize wx = w7 at *
  have bA8 : NB A1 26 65 (upd (setR VV k (t0, t1, t2, t3)) 0 v0) (((((w7.drew.setCell ⟨A1, 1 + k * 4, none⟩ (.int .i64 t0)).setCell ⟨A1, 1 + k * 4 + 1, none⟩ (.int .i64 t1)).setCell ⟨A1, 1 + k * 4 + 2, none⟩ (.int .i64 t2)).setCell ⟨A1, 1 + k * 4 + 3, none⟩ (.int .i64 t3)).setCell ⟨A1, 0, none⟩ (.int .i64 v0)) := HW.out w7.drew bA
  have bT8 : NB w.heap.size 26 65 T (((((w7.drew.setCell ⟨A1, 1 + k * 4, none⟩ (.int .i64 t0)).setCell ⟨A1, 1 + k * 4 + 1, none⟩ (.int .i64 t1)).setCell ⟨A1, 1 + k * 4 + 2, none⟩ (.int .i64 t2)).setCell ⟨A1, 1 + k * 4 + 3, none⟩ (.int .i64 t3)).setCell ⟨A1, 0, none⟩ (.int .i64 v0)) := (Below.heap_setCell _ _ _ _ (by show w.heap.size ≠ A1; omega)).trans ((nb_other (b := A1) (k := w.heap.size) (by omega) [.int .i64 t0, .int .i64 t1, .int .i64 t2, .int .i64 t3] (1 + k * 4) w7.drew).trans bT)
  have L8 : Below w.heap.size w (((((w7.drew.setCell ⟨A1, 1 + k * 4, none⟩ (.int .i64 t0)).setCell ⟨A1, 1 + k * 4 + 1, none⟩ (.int .i64 t1)).setCell ⟨A1, 1 + k * 4 + 2, none⟩ (.int .i64 t2)).setCell ⟨A1, 1 + k * 4 + 3, none⟩ (.int .i64 t3)).setCell ⟨A1, 0, none⟩ (.int .i64 v0)) := (below_setCells A1 (by omega) [.int .i64 t0, .int .i64 t1, .int .i64 t2, .int .i64 t3] (1 + k * 4) w _ L5.drew).setCell (p := ⟨A1, 0, none⟩) (by show w.heap.size ≤ A1; omega) _
  have a1 : ((((w7.drew.setCell ⟨A1, 1 + k * 4, none⟩ (.int .i64 t0)).setCell ⟨A1, 1 + k * 4 + 1, none⟩ (.int .i64 t1)).setCell ⟨A1, 1 + k * 4 + 2, none⟩ (.int .i64 t2)).setCell ⟨A1, 1 + k * 4 + 3, none⟩ (.int .i64 t3)).cell? ⟨A1, 0, none⟩ = some (.int .i64 (v0 + 1)) := by
    rw [World.cell?_setCell_other _ _ _ _ (fun e => by injection e with _ e; omega), World.cell?_setCell_other _ _ _ _ (fun e => by injection e with _ e; omega), World.cell?_setCell_other _ _ _ _ (fun e => by injection e with _ e; omega), World.cell?_setCell_other _ _ _ _ (fun e => by injection e with _ e; omega)]
    exact a0
  have HT7 := Lib.hid (fun W (m : NB w.heap.size 26 65 T W) => show W.cell? ⟨w.heap.size, 1 + k * 4, none⟩ = some (.int .i64 t0) ∧ W.cell? ⟨w.heap.size, 1 + k * 4 + 1, none⟩ = some (.int .i64 t1) ∧ W.cell? ⟨w.heap.size, 1 + k * 4 + 2, none⟩ = some (.int .i64 t2) ∧ W.cell? ⟨w.heap.size, 1 + k * 4 + 3, none⟩ = some (.int .i64 t3) ∧ W.cell? ⟨w.heap.size, 0, none⟩ = some (.int .i64 v0) from ⟨(ent_of_range _ _ _ _ (CRR.out W m)).1, (ent_of_range _ _ _ _ (CRR.out W m)).2.1, (ent_of_range _ _ _ _ (CRR.out W m)).2.2.1, (ent_of_range _ _ _ _ (CRR.out W m)).2.2.2, COO.out W m⟩)
  have bT7 : NB w.heap.size 26 65 T w7.drew := bT
  have bTr : NB w.heap.size 26 65 T ((((w7.drew.setCell ⟨A1, 1 + k * 4, none⟩ (.int .i64 t0)).setCell ⟨A1, 1 + k * 4 + 1, none⟩ (.int .i64 t1)).setCell ⟨A1, 1 + k * 4 + 2, none⟩ (.int .i64 t2)).setCell ⟨A1, 1 + k * 4 + 3, none⟩ (.int .i64 t3)) := (nb_other (b := A1) (k := w.heap.size) (by omega) [.int .i64 t0, .int .i64 t1, .int .i64 t2, .int .i64 t3] (1 + k * 4) w7.drew).trans bT
  have HS7 := Lib.hid (HT7.out _ bT7)
  have HSr := Lib.hid (HT7.out _ bTr)
  have HS8 := Lib.hid (HT7.out _ bT8)
  clear bT7 bTr HT7
  have H8 := Lib.hid (And.intro bA8 (And.intro bT8 L8))
  clear bA8 bT8 L8 bT bE bA L5 HW hok
  refine wp_region_held_drew (S := fun W => W.cell? ⟨w.heap.size, 1 + k * 4, none⟩ = some (.int .i64 t0) ∧ W.cell? ⟨w.heap.size, 1 + k * 4 + 1, none⟩ = some (.int .i64 t1) ∧ W.cell? ⟨w.heap.size, 1 + k * 4 + 2, none⟩ = some (.int .i64 t2) ∧ W.cell? ⟨w.heap.size, 1 + k * 4 + 3, none⟩ = some (.int .i64 t3) ∧ W.cell? ⟨w.heap.size, 0, none⟩ = some (.int .i64 v0)) (by kernel_rfl) HS7.out (fun hHeld => ?_)
  refine wpAnyH_take (i := 0) (oi := { dst := some 101, op := Op.move (Operand.tmp 1), type := 3, pos := "law.go:44", after := #[], guard := none }) (v := ?_) rfl (by kernel_rfl) (by kernel_rfl) (by kernel_rfl) (fun _ _ _ h => h) (Or.inl ⟨by rfl, ?_⟩) (by assumption) ?_
  rotate_left
  · intro w hSw
    (try dsimp only at hSw)
    first | (go_simp; done) | (go_simp; with_reducible rfl)
  (try simp only [Act.put, List.setIfInBounds_toArray, List.set_cons_zero, List.set_cons_succ])
  refine wpAnyH_take (i := 1) (oi := { dst := some 102, op := Op.move (Operand.tmp 1), type := 3, pos := "law.go:44", after := #[], guard := none }) (v := ?_) rfl (by kernel_rfl) (by kernel_rfl) (by kernel_rfl) (fun _ _ _ h => h) (Or.inl ⟨by rfl, ?_⟩) (by assumption) ?_
  rotate_left
  · intro w hSw
    (try dsimp only at hSw)
    first | (go_simp; done) | (go_simp; with_reducible rfl)
  (try simp only [Act.put, List.setIfInBounds_toArray, List.set_cons_zero, List.set_cons_succ])
  refine wpAnyH_take (i := 2) (oi := { dst := some 103, op := Op.fieldAddr 26 (Operand.tmp 3) 1, type := 0, pos := "law.go:44", after := #[], guard := none }) (v := ?_) rfl (by kernel_rfl) (by kernel_rfl) (by kernel_rfl) (fun _ _ _ h => h) (Or.inl ⟨by rfl, ?_⟩) (by assumption) ?_
  rotate_left
  · intro w hSw
    (try dsimp only at hSw)
    first | (go_simp; done) | (go_simp; with_reducible rfl)
  (try simp only [Act.put, List.setIfInBounds_toArray, List.set_cons_zero, List.set_cons_succ])
  refine wpAnyH_take (i := 3) (oi := { dst := some 104, op := Op.indexAddr 24 (Operand.tmp 103) (Operand.tmp 102), type := 0, pos := "law.go:44", after := #[{ on := 2, ground := Ground.data }, { on := 1, ground := Ground.data }], guard := none }) (v := ?_) rfl (by kernel_rfl) (by kernel_rfl) (by kernel_rfl) (fun _ _ _ h => h) (Or.inl ⟨by rfl, ?_⟩) (by assumption) ?_
  rotate_left
  · intro w hSw
    (try dsimp only at hSw)
    first | (go_simp; done) | (go_simp; with_reducible rfl)
  (try simp only [Act.put, List.setIfInBounds_toArray, List.set_cons_zero, List.set_cons_succ])
  refine wpAnyH_take (i := 4) (oi := { dst := some 105, op := Op.load 23 (Operand.tmp 104), type := 23, pos := "law.go:44", after := #[{ on := 3, ground := Ground.data }], guard := none }) (v := ?_) rfl (by kernel_rfl) (by kernel_rfl) (by kernel_rfl) (fun _ _ _ h => h) (Or.inl ⟨by rfl, ?_⟩) (by assumption) ?_
  rotate_left
  · intro w hSw
    (try dsimp only at hSw)
    first | (go_simp; done) | (go_simp; with_reducible rfl)
  (try simp only [Act.put, List.setIfInBounds_toArray, List.set_cons_zero, List.set_cons_succ])
  refine wpAnyH_take (i := 5) (oi := { dst := some 106, op := Op.fieldAddr 26 (Operand.tmp 3) 0, type := 0, pos := "law.go:44", after := #[{ on := 9, ground := Ground.gcOnly Departure.lateStores }], guard := none }) (v := ?_) rfl (by kernel_rfl) (by kernel_rfl) (by kernel_rfl) (fun _ _ _ h => h) (Or.inl ⟨by rfl, ?_⟩) (by assumption) ?_
  rotate_left
  · intro w hSw
    (try dsimp only at hSw)
    first | (go_simp; done) | (go_simp; with_reducible rfl)
  (try simp only [Act.put, List.setIfInBounds_toArray, List.set_cons_zero, List.set_cons_succ])
  refine wpAnyH_take (i := 6) (oi := { dst := some 107, op := Op.load 3 (Operand.tmp 106), type := 3, pos := "law.go:44", after := #[{ on := 5, ground := Ground.data }, { on := 9, ground := Ground.gcOnly Departure.lateStores }], guard := none }) (v := ?_) rfl (by kernel_rfl) (by kernel_rfl) (by kernel_rfl) (fun _ _ _ h => h) (Or.inl ⟨by rfl, ?_⟩) (by assumption) ?_
  rotate_left
  · intro w hSw
    (try dsimp only at hSw)
    first | (go_simp; done) | (go_simp; with_reducible rfl)
  (try simp only [Act.put, List.setIfInBounds_toArray, List.set_cons_zero, List.set_cons_succ])
  refine wpAnyH_take (i := 7) (oi := { dst := some 108, op := Op.fieldAddr 26 (Operand.tmp 7) 1, type := 0, pos := "law.go:44", after := #[], guard := none }) (v := ?_) rfl (by kernel_rfl) (by kernel_rfl) (by kernel_rfl) (fun _ _ _ h => h) (Or.inl ⟨by rfl, ?_⟩) (by assumption) ?_
  rotate_left
  · intro w hSw
    (try dsimp only at hSw)
    first | (go_simp; done) | (go_simp; with_reducible rfl)
  (try simp only [Act.put, List.setIfInBounds_toArray, List.set_cons_zero, List.set_cons_succ])
  refine wpAnyH_take (i := 8) (oi := { dst := some 109, op := Op.indexAddr 24 (Operand.tmp 108) (Operand.tmp 101), type := 0, pos := "law.go:44", after := #[{ on := 7, ground := Ground.data }, { on := 0, ground := Ground.data }, { on := 0, ground := Ground.phase }, { on := 1, ground := Ground.phase }, { on := 2, ground := Ground.phase }, { on := 3, ground := Ground.phase }, { on := 4, ground := Ground.phase }, { on := 5, ground := Ground.textOnly Departure.lateStores }, { on := 6, ground := Ground.textOnly Departure.lateStores }], guard := none }) (v := ?_) rfl (by kernel_rfl) (by kernel_rfl) (by kernel_rfl) (fun _ _ _ h => h) (Or.inl ⟨by rfl, ?_⟩) (by assumption) ?_
  rotate_left
  · intro w hSw
    (try dsimp only at hSw)
    first | (go_simp; done) | (go_simp; with_reducible rfl)
  (try simp only [Act.put, List.setIfInBounds_toArray, List.set_cons_zero, List.set_cons_succ])
  refine wpAnyH_ready (rs := [9]) (by kernel_rfl) (by simp) ?_
  refine AllReadyH.cons (o := { dst := none, op := Op.store 23 (Operand.tmp 109) (Operand.tmp 105), type := 0, pos := "law.go:44", after := #[{ on := 8, ground := Ground.data }, { on := 4, ground := Ground.data }, { on := 0, ground := Ground.phase }, { on := 1, ground := Ground.phase }, { on := 2, ground := Ground.phase }, { on := 3, ground := Ground.phase }, { on := 4, ground := Ground.phase }, { on := 5, ground := Ground.textOnly Departure.lateStores }, { on := 6, ground := Ground.textOnly Departure.lateStores }], guard := none }) rfl (fun K hK => ?_) AllReadyH.nil
  go_simp
  refine hK.out _ _ HSr.out (fun hNew => ?_)
  clear hK K hHeld
  have hHeld := hNew
  clear hNew
  (try simp only [Act.put, List.setIfInBounds_toArray, List.set_cons_zero, List.set_cons_succ])
  refine wpAnyH_take (i := 10) (oi := { dst := some 110, op := Op.fieldAddr 26 (Operand.tmp 7) 0, type := 0, pos := "law.go:44", after := #[{ on := 0, ground := Ground.phase }, { on := 1, ground := Ground.phase }, { on := 2, ground := Ground.phase }, { on := 3, ground := Ground.phase }, { on := 4, ground := Ground.phase }, { on := 5, ground := Ground.phase }, { on := 6, ground := Ground.phase }, { on := 7, ground := Ground.phase }, { on := 8, ground := Ground.phase }, { on := 9, ground := Ground.phase }], guard := none }) (v := ?_) rfl (by kernel_rfl) (by kernel_rfl) (by kernel_rfl) (fun _ _ _ h => h) (Or.inl ⟨by rfl, ?_⟩) (by assumption) ?_
  rotate_left
  · intro w hSw
    (try dsimp only at hSw)
    first | (go_simp; done) | (go_simp; with_reducible rfl)
  (try simp only [Act.put, List.setIfInBounds_toArray, List.set_cons_zero, List.set_cons_succ])
  refine wpAnyH_ready (rs := [11]) (by kernel_rfl) (by simp) ?_
  refine AllReadyH.cons (o := { dst := none, op := Op.store 3 (Operand.tmp 110) (Operand.tmp 107), type := 0, pos := "law.go:44", after := #[{ on := 10, ground := Ground.data }, { on := 6, ground := Ground.data }, { on := 9, ground := Ground.chain }, { on := 0, ground := Ground.phase }, { on := 1, ground := Ground.phase }, { on := 2, ground := Ground.phase }, { on := 3, ground := Ground.phase }, { on := 4, ground := Ground.phase }, { on := 5, ground := Ground.phase }, { on := 6, ground := Ground.phase }, { on := 7, ground := Ground.phase }, { on := 8, ground := Ground.phase }, { on := 9, ground := Ground.phase }], guard := none }) rfl (fun K hK => ?_) AllReadyH.nil
  go_simp
  refine hK.out _ _ HS8.out (fun hNew => ?_)
  clear hK K hHeld
  have hHeld := hNew
  clear hNew
  (try simp only [Act.put, List.setIfInBounds_toArray, List.set_cons_zero, List.set_cons_succ])
  refine wpAnyH_done (by kernel_rfl) ?_ _
  clear hHeld a1 HS7 HSr HS8 CRR COO
  obtain ⟨bA8, bT8, L8⟩ := (show NB A1 26 65 (upd (setR VV k (t0, t1, t2, t3)) 0 v0) ((((((w7.setCell ⟨A1, 1 + k * 4, none⟩ (.int .i64 t0)).setCell ⟨A1, 1 + k * 4 + 1, none⟩ (.int .i64 t1)).setCell ⟨A1, 1 + k * 4 + 2, none⟩ (.int .i64 t2)).setCell ⟨A1, 1 + k * 4 + 3, none⟩ (.int .i64 t3)).setCell ⟨A1, 0, none⟩ (.int .i64 v0)).drew) ∧ NB w.heap.size 26 65 T ((((((w7.setCell ⟨A1, 1 + k * 4, none⟩ (.int .i64 t0)).setCell ⟨A1, 1 + k * 4 + 1, none⟩ (.int .i64 t1)).setCell ⟨A1, 1 + k * 4 + 2, none⟩ (.int .i64 t2)).setCell ⟨A1, 1 + k * 4 + 3, none⟩ (.int .i64 t3)).setCell ⟨A1, 0, none⟩ (.int .i64 v0)).drew) ∧ Below w.heap.size w ((((((w7.setCell ⟨A1, 1 + k * 4, none⟩ (.int .i64 t0)).setCell ⟨A1, 1 + k * 4 + 1, none⟩ (.int .i64 t1)).setCell ⟨A1, 1 + k * 4 + 2, none⟩ (.int .i64 t2)).setCell ⟨A1, 1 + k * 4 + 3, none⟩ (.int .i64 t3)).setCell ⟨A1, 0, none⟩ (.int .i64 v0)).drew) from H8.out)
  clear H8 x0 x1 x2 x3 y0 y1 y2 y3 o0 a0 f0 f1 f2 f3 f4
  generalize (((((w7.setCell ⟨A1, 1 + k * 4, none⟩ (.int .i64 t0)).setCell ⟨A1, 1 + k * 4 + 1, none⟩ (.int .i64 t1)).setCell ⟨A1, 1 + k * 4 + 2, none⟩ (.int .i64 t2)).setCell ⟨A1, 1 + k * 4 + 3, none⟩ (.int .i64 t3)).setCell ⟨A1, 0, none⟩ (.int .i64 v0)).drew = w8 at *
  have l1 := ld_tab bA8
  have l2 := ld_tab bT8
  have hbk := HBK.out
  have hq8 : ∀ W : World, (Go.binOp .eql 26 (tabV (upd (setR VV k (t0, t1, t2, t3)) 0 v0)) (tabV T)).run Try.prog W = .ok (.bool true) W := fun W => by rw [eql_tab, hbk]
  have HL8 := Lib.hid L8
  clear L8 bA8 bT8 hbk
  generalize upd (setR VV k (t0, t1, t2, t3)) 0 v0 = Z at *
  go_wp2_with fail
  refine (TW.out _).mono ?_
  rintro e w9 ⟨rfl, m9⟩
  have L := HL8.out.trans (m9.mono HL8.out.size)
  go_wp2
  go_ret
  exact ⟨rfl, L⟩
end Go.Proofs.Ytanbkbppahgbgaa
