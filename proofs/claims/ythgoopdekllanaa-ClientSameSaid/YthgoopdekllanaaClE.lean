/- A sheet taken by a client: package client's Take. -/
import Derived.Test.YthgoopdekllanaaClD
namespace Go.Proofs.Ythgoopdekllanaa
open Go.RowKit Go.Shelf
open SumM

attribute [local go_sem] Oper.semAt_some guard_undef
attribute [local go_sem ↓] nm_ldT nm_ldA nm_stT nm_ldC nm_stC nm_buT nm_buC
attribute [local go_sem ↓] zero_tab zero_cli

theorem results_cli3 {fn : Func} {p u v : Tmp} (h : fn.results = #[.cell p 45, .tmp u, .tmp v]) (tmps : Array Value) (w : World) (g : Nat) (cs : Array Value) (fr : Nat × Nat)
    (hp : tmps.getD p undef = .pointer (some ⟨g, 0, none⟩)) (hg : w.heap[g]? = some (.cells cs 45 fr)) (h9 : cs.size = 66) :
    (results fn tmps).run Try.prog w = .ok (.tuple #[.agg cs, tmps.getD u undef, tmps.getD v undef]) w := by
  have e := run_loadVar_row (P := Try.prog) w g 45 45 cs fr _ hg Try.undC rfl (by rw [h9]; exact Try.sizC)
  have e2 : (results fn tmps).run Try.prog w = ((asAddr (tmps.getD p undef)).run Try.prog w).andThen fun a w₁ => ((loadVar 45 a).run Try.prog w₁).andThen fun x w₂ => .ok (.tuple #[x, tmps.getD u undef, tmps.getD v undef]) w₂ := by
    simp only [results, h]
    simp [Sem.run_bind, Result.andThen]
  rw [e2, hp]
  simp only [asAddr, Sem.run_pure, Result.andThen_ok]
  rw [e]
  rfl

/-- What a sheet taken leaves: the client, whether it is a later one, which error. -/
def tkR (h : Bool) (T : Nat → Int) (ba tv : Int) (rs : List SR) : Bool × (Nat → Int) × Bool × Int :=
  if (rgC h T && shOk ba tv rs) = true then (if hasC h T < ba then (h, T, false, 120) else if tv ≤ hasC h T then (h, T, false, 0) else (true, wiT h T tv rs, true, 0)) else (h, T, false, 2)
def CliRet (r : Bool × (Nat → Int) × Bool × Int) (w : World) : Ending → World → Prop := fun e w' => e = .returned (.tuple #[cliV r.1 r.2.1, .bool r.2.2.1, .int .i64 r.2.2.2]) ∧ Below w.heap.size w w'

set_option maxRecDepth 100000 in
set_option maxHeartbeats 8000000 in
theorem cTake_any (h : Bool) (T : Nat → Int) (ba tv : Int) (sa : Option Addr) (sn sc : Nat) (rs : List SR) (hl : rs.length = sn) (hs : sn ≤ 4000000) (w : World) (hsr : SRow5 w.heap.size w sa rs) :
    Calls Try.prog 27 #[cliV h T, .agg #[.int .i64 ba, .int .i64 tv, .slice sa sn sc]] w (CliRet (tkR h T ba tv rs) w) := by
  have bC := blkN (blkN (heap_alloc_new w (.cells (cliL h T).toArray 45)) (.cells #[.int .i64 ba, .int .i64 tv, .slice sa sn sc] 29)) (.cells (cliL false zeroT).toArray 45)
  have bS := blkN (newN (w.alloc (.cells (cliL h T).toArray 45)) (.cells #[.int .i64 ba, .int .i64 tv, .slice sa sn sc] 29) (w.heap.size + 1) (by simp)) (.cells (cliL false zeroT).toArray 45)
  have bR := newN ((w.alloc (.cells (cliL h T).toArray 45)).alloc (.cells #[.int .i64 ba, .int .i64 tv, .slice sa sn sc] 29)) (.cells (cliL false zeroT).toArray 45) (w.heap.size + 2) (by simp)
  have L0 := (((Below.refl w.heap.size w).alloc (Nat.le_refl _) (.cells (cliL h T).toArray 45)).alloc (by simp) (.cells #[.int .i64 ba, .int .i64 tv, .slice sa sn sc] 29)).alloc (by simp; omega) (.cells (cliL false zeroT).toArray 45)
  go_enter Try.func27, Try.ntmps27
  go_upto_region 1 with fail
  generalize ((w.alloc (.cells (cliL h T).toArray 45)).alloc (.cells #[.int .i64 ba, .int .i64 tv, .slice sa sn sc] 29)).alloc (.cells (cliL false zeroT).toArray 45) = W0 at *
  have hCR : w.heap.size + 2 ≠ w.heap.size := by omega
  refine wp_scope_jumps 0 (fun a' w' => Below w.heap.size w w' ∧ CB w.heap.size h T w' ∧ CB (w.heap.size + 2) false zeroT w' ∧ ∃ E : Int, tkR h T ba tv rs = (h, T, false, E) ∧ ∃ (u5 u6 u8 u9 u10 u11 u12 u13 u14 u15 u16 u17 u18 u19 u20 u21 u22 u23 u24 u25 u26 u27 u28 u29 u30 : Value), a' = { tmps := #[cliV h T, .agg #[.int .i64 ba, .int .i64 tv, .slice sa sn sc], .pointer (some ⟨w.heap.size, 0, none⟩), .pointer (some ⟨w.heap.size + 1, 0, none⟩), .pointer (some ⟨w.heap.size + 1 + 1, 0, none⟩), u5, u6, .int .i64 E, u8, u9, u10, u11, u12, u13, u14, u15, u16, u17, u18, u19, u20, u21, u22, u23, u24, u25, u26, u27, u28, u29, u30], defers := [] }) (fun _ _ => 0) rfl ?first ?pass
  case pass =>
    rintro a' w' ⟨LL, hC, hR, E, hE, u5, u6, u8, u9, u10, u11, u12, u13, u14, u15, u16, u17, u18, u19, u20, u21, u22, u23, u24, u25, u26, u27, u28, u29, u30, rfl⟩
    have l0 := ld_cli hC
    have s0 := st_cli hR h T
    have HS := Lib.hid (cb_full hR h T)
    have HX := Lib.hid (below_setCells (w.heap.size + 2) (by omega) (cliL h T) 0 w _ LL)
    have HE := Lib.hid hE
    clear LL hC hR hE bC bS bR L0 hsr
    go_wp2
    simp only [Exit.jump]
    refine bodyPost_ret (results_cli3 rfl _ _ (w.heap.size + 2) _ (0, 0) rfl HS.out (by simp [cliL_len])) rfl ⟨?_, HX.out⟩
    rw [HE.out]
    rfl
  case first =>
    obtain ⟨g, hg⟩ : ∃ g, rgC h T = g := ⟨_, rfl⟩
    obtain ⟨g', hg'⟩ : ∃ g', shOk ba tv rs = g' := ⟨_, rfl⟩
    have HT := Lib.hid (show tkR h T ba tv rs = if (g && g') = true then (if hasC h T < ba then (h, T, false, 120) else if tv ≤ hasC h T then (h, T, false, 0) else (true, wiT h T tv rs, true, 0)) else (h, T, false, 2) by unfold tkR; rw [hg, hg'])
    have KR := Lib.hid (hg ▸ cRight_any h T W0)
    have l0 := ld_cli bC
    go_wp2_with fail
    refine KR.out.mono ?_
    rintro e w1 ⟨rfl, m1⟩
    replace bC := bb bC m1
    replace bS := bb bS m1
    replace bR := bb bR m1
    replace L0 := L0.trans (m1.mono L0.size)
    clear l0 m1 KR hg
    cases g
    · have HE := Lib.hid (And.intro L0 (And.intro bC (And.intro bR HT.out)))
      clear L0 bC bS bR
      go_wp2
      go_step3
      exact ⟨rfl, HE.out.1, HE.out.2.1, HE.out.2.2.1, 2, HE.out.2.2.2, _, _, _, _, _, _, _, _, _, _, _, _, _, _, _, _, _, _, _, _, _, _, _, _, _, rfl⟩
    obtain ⟨q0, q1, q2⟩ := sh_cells _ _ _ _ _ bS
    have KS := Lib.hid (hg' ▸ sRight_any ba tv sa sn sc rs hl hs w1 ((hsr.below L0).more L0.size))
    go_wp2_with fail
    refine KS.out.mono ?_
    rintro e w2 ⟨rfl, m2⟩
    replace bC := bb bC m2
    replace bS := bb bS m2
    replace bR := bb bR m2
    replace L0 := L0.trans (m2.mono L0.size)
    clear q0 q1 q2 m2 KS
    cases g'
    · have HE := Lib.hid (And.intro L0 (And.intro bC (And.intro bR HT.out)))
      clear L0 bC bS bR
      go_wp2
      go_step3
      exact ⟨rfl, HE.out.1, HE.out.2.1, HE.out.2.2.1, 2, HE.out.2.2.2, _, _, _, _, _, _, _, _, _, _, _, _, _, _, _, _, _, _, _, _, _, _, _, _, _, rfl⟩
    have hris : rises (-1) rs = true := by
      have := hg'
      unfold shOk at this
      simp only [Bool.and_eq_true] at this
      exact this.2
    have HRI := Lib.hid hris
    have HSR := Lib.hid hsr
    clear hg' hris hsr
    replace HT := Lib.hid (show tkR h T ba tv rs = if hasC h T < ba then (h, T, false, 120) else if tv ≤ hasC h T then (h, T, false, 0) else (true, wiT h T tv rs, true, 0) from HT.out)
    have KH := Lib.hid (fun W => cHas_any h T W)
    obtain ⟨v, hv⟩ : ∃ v, hasC h T = v := ⟨_, rfl⟩
    rw [hv] at KH HT
    clear hv
    have CB2 := Lib.hid (fun W (m : Below w2.heap.size w2 W) => And.intro (bb bC m) (And.intro (bb bS m) (And.intro (bb bR m) (L0.trans (m.mono L0.size)))))
    have CS := Lib.hid (fun W (m : Below w2.heap.size w2 W) => show (ldS 45 (.pointer (some ⟨w.heap.size, 0, none⟩))).run Try.prog W = .ok (cliV h T) W ∧ W.cell? ⟨w.heap.size + 1, 0, none⟩ = some (.int .i64 ba) ∧ W.cell? ⟨w.heap.size + 1, 1, none⟩ = some (.int .i64 tv) from
      ⟨ld_cli (bb bC m), (sh_cells _ _ _ _ _ (bb bS m)).1, (sh_cells _ _ _ _ _ (bb bS m)).2.1⟩)
    clear L0 bC bS bR
    have nc := (Below.refl w2.heap.size w2).drew
    go_upto_region 4 with fail
    refine wp_region_held_drew (S := fun W => (ldS 45 (.pointer (some ⟨w.heap.size, 0, none⟩))).run Try.prog W = .ok (cliV h T) W ∧ W.cell? ⟨w.heap.size + 1, 0, none⟩ = some (.int .i64 ba) ∧ W.cell? ⟨w.heap.size + 1, 1, none⟩ = some (.int .i64 tv)) (by kernel_rfl) (CS.out _ nc) (fun hHeld => ?_)
    refine wpAnyH_take (i := 0) (oi := { dst := some 16, op := Op.load 45 (Operand.tmp 2), type := 45, pos := "client.go:37", after := #[], guard := none }) (v := ?_) rfl (by kernel_rfl) (by kernel_rfl) (by kernel_rfl) (fun _ _ _ h => h) (Or.inl ⟨by rfl, ?_⟩) (by assumption) ?_
    rotate_left
    · intro w hSw
      (try dsimp only at hSw)
      first | (go_simp; done) | (go_simp; with_reducible rfl)
    (try simp only [Act.put, List.setIfInBounds_toArray, List.set_cons_zero, List.set_cons_succ])
    refine wpAnyH_take (i := 2) (oi := { dst := some 18, op := Op.fieldAddr 29 (Operand.tmp 3) 0, type := 0, pos := "client.go:37", after := #[], guard := none }) (v := ?_) rfl (by kernel_rfl) (by kernel_rfl) (by kernel_rfl) (fun _ _ _ h => h) (Or.inl ⟨by rfl, ?_⟩) (by assumption) ?_
    rotate_left
    · intro w hSw
      (try dsimp only at hSw)
      first | (go_simp; done) | (go_simp; with_reducible rfl)
    (try simp only [Act.put, List.setIfInBounds_toArray, List.set_cons_zero, List.set_cons_succ])
    refine wpAnyH_take (i := 3) (oi := { dst := some 19, op := Op.load 3 (Operand.tmp 18), type := 3, pos := "client.go:37", after := #[{ on := 2, ground := Ground.data }], guard := none }) (v := ?_) rfl (by kernel_rfl) (by kernel_rfl) (by kernel_rfl) (fun _ _ _ h => h) (Or.inl ⟨by rfl, ?_⟩) (by assumption) ?_
    rotate_left
    · intro w hSw
      (try dsimp only at hSw)
      first | (go_simp; done) | (go_simp; with_reducible rfl)
    (try simp only [Act.put, List.setIfInBounds_toArray, List.set_cons_zero, List.set_cons_succ])
    refine wpAnyH_ready (rs := [1]) (by kernel_rfl) (by simp) ?_
    refine AllReadyH.cons (o := { dst := some 17, op := Op.call { callee := Callee.value (Operand.func 35), args := #[Operand.tmp 16], argTypes := #[45] }, type := 3, pos := "client.go:37", after := #[{ on := 0, ground := Ground.data }], guard := none }) rfl (fun K hK => ?_) AllReadyH.nil
    go_simp
    refine (KH.out _).mono ?_
    rintro e wx ⟨rfl, jx⟩
    replace nc := nc.trans (jx.mono nc.size)
    clear jx
    refine hK.out _ _ (CS.out _ nc) (fun hHeld => ?_)
    clear hK K
    (try simp only [Act.put, List.setIfInBounds_toArray, List.set_cons_zero, List.set_cons_succ])
    refine wpAnyH_take (i := 4) (oi := { dst := some 20, op := Op.binOp BinOp.lss 3 (Operand.tmp 17) (Operand.tmp 19) 3, type := 4, pos := "client.go:37", after := #[{ on := 1, ground := Ground.data }, { on := 3, ground := Ground.data }], guard := none }) (v := ?_) rfl (by kernel_rfl) (by kernel_rfl) (by kernel_rfl) (fun _ _ _ h => h) (Or.inl ⟨by rfl, ?_⟩) (by assumption) ?_
    rotate_left
    · intro w hSw
      (try dsimp only at hSw)
      first | (go_simp; done) | (go_simp; with_reducible rfl)
    (try simp only [Act.put, List.setIfInBounds_toArray, List.set_cons_zero, List.set_cons_succ])
    refine wpAnyH_done (by kernel_rfl) ?_ _

    by_cases hb : v < ba
    · rw [show decide (v < ba) = true from decide_eq_true hb]
      obtain ⟨bC, bS, bR, LL⟩ := CB2.out _ nc
      have HE := Lib.hid (And.intro LL (And.intro bC (And.intro bR (show tkR h T ba tv rs = (h, T, false, 120) by rw [HT.out, if_pos hb]))))
      clear LL bC bS bR hb nc CS CB2
      go_wp2
      go_step3
      exact ⟨rfl, HE.out.1, HE.out.2.1, HE.out.2.2.1, 120, HE.out.2.2.2, _, _, _, _, _, _, _, _, _, _, _, _, _, _, _, _, _, _, _, _, _, _, _, _, _, rfl⟩
    rw [show decide (v < ba) = false from decide_eq_false hb]
    replace HT := Lib.hid ((show tkR h T ba tv rs = if tv ≤ v then (h, T, false, 0) else (true, wiT h T tv rs, true, 0) by rw [HT.out, if_neg hb]))
    clear hb
    generalize wx = w3 at *
    go_upto_region 6 with fail

    replace nc := nc.drew
    refine wp_region_held_drew (S := fun W => (ldS 45 (.pointer (some ⟨w.heap.size, 0, none⟩))).run Try.prog W = .ok (cliV h T) W ∧ W.cell? ⟨w.heap.size + 1, 0, none⟩ = some (.int .i64 ba) ∧ W.cell? ⟨w.heap.size + 1, 1, none⟩ = some (.int .i64 tv)) (by kernel_rfl) (CS.out _ nc) (fun hHeld => ?_)
    refine wpAnyH_take (i := 0) (oi := { dst := some 21, op := Op.fieldAddr 29 (Operand.tmp 3) 1, type := 0, pos := "client.go:41", after := #[], guard := none }) (v := ?_) rfl (by kernel_rfl) (by kernel_rfl) (by kernel_rfl) (fun _ _ _ h => h) (Or.inl ⟨by rfl, ?_⟩) (by assumption) ?_
    rotate_left
    · intro w hSw
      (try dsimp only at hSw)
      first | (go_simp; done) | (go_simp; with_reducible rfl)
    (try simp only [Act.put, List.setIfInBounds_toArray, List.set_cons_zero, List.set_cons_succ])
    refine wpAnyH_take (i := 1) (oi := { dst := some 22, op := Op.load 3 (Operand.tmp 21), type := 3, pos := "client.go:41", after := #[{ on := 0, ground := Ground.data }], guard := none }) (v := ?_) rfl (by kernel_rfl) (by kernel_rfl) (by kernel_rfl) (fun _ _ _ h => h) (Or.inl ⟨by rfl, ?_⟩) (by assumption) ?_
    rotate_left
    · intro w hSw
      (try dsimp only at hSw)
      first | (go_simp; done) | (go_simp; with_reducible rfl)
    (try simp only [Act.put, List.setIfInBounds_toArray, List.set_cons_zero, List.set_cons_succ])
    refine wpAnyH_take (i := 2) (oi := { dst := some 23, op := Op.load 45 (Operand.tmp 2), type := 45, pos := "client.go:41", after := #[], guard := none }) (v := ?_) rfl (by kernel_rfl) (by kernel_rfl) (by kernel_rfl) (fun _ _ _ h => h) (Or.inl ⟨by rfl, ?_⟩) (by assumption) ?_
    rotate_left
    · intro w hSw
      (try dsimp only at hSw)
      first | (go_simp; done) | (go_simp; with_reducible rfl)
    (try simp only [Act.put, List.setIfInBounds_toArray, List.set_cons_zero, List.set_cons_succ])
    refine wpAnyH_ready (rs := [3]) (by kernel_rfl) (by simp) ?_
    refine AllReadyH.cons (o := { dst := some 24, op := Op.call { callee := Callee.value (Operand.func 35), args := #[Operand.tmp 23], argTypes := #[45] }, type := 3, pos := "client.go:41", after := #[{ on := 2, ground := Ground.data }], guard := none }) rfl (fun K hK => ?_) AllReadyH.nil
    go_simp
    refine (KH.out _).mono ?_
    rintro e wx ⟨rfl, jx⟩
    replace nc := nc.trans (jx.mono nc.size)
    clear jx
    refine hK.out _ _ (CS.out _ nc) (fun hHeld => ?_)
    clear hK K
    (try simp only [Act.put, List.setIfInBounds_toArray, List.set_cons_zero, List.set_cons_succ])
    refine wpAnyH_take (i := 4) (oi := { dst := some 25, op := Op.binOp BinOp.leq 3 (Operand.tmp 22) (Operand.tmp 24) 3, type := 4, pos := "client.go:41", after := #[{ on := 1, ground := Ground.data }, { on := 3, ground := Ground.data }], guard := none }) (v := ?_) rfl (by kernel_rfl) (by kernel_rfl) (by kernel_rfl) (fun _ _ _ h => h) (Or.inl ⟨by rfl, ?_⟩) (by assumption) ?_
    rotate_left
    · intro w hSw
      (try dsimp only at hSw)
      first | (go_simp; done) | (go_simp; with_reducible rfl)
    (try simp only [Act.put, List.setIfInBounds_toArray, List.set_cons_zero, List.set_cons_succ])
    refine wpAnyH_done (by kernel_rfl) ?_ _

    by_cases hb : tv ≤ v
    · rw [show decide (tv ≤ v) = true from decide_eq_true hb]
      obtain ⟨bC, bS, bR, LL⟩ := CB2.out _ nc
      have HE := Lib.hid (And.intro LL (And.intro bC (And.intro bR (show tkR h T ba tv rs = (h, T, false, 0) by rw [HT.out, if_pos hb]))))
      clear LL bC bS bR hb nc CS CB2
      go_wp2
      go_step3
      exact ⟨rfl, HE.out.1, HE.out.2.1, HE.out.2.2.1, 0, HE.out.2.2.2, _, _, _, _, _, _, _, _, _, _, _, _, _, _, _, _, _, _, _, _, _, _, _, _, _, rfl⟩
    rw [show decide (tv ≤ v) = false from decide_eq_false hb]
    replace HT := Lib.hid ((show tkR h T ba tv rs = (true, wiT h T tv rs, true, 0) by rw [HT.out, if_neg hb]))
    clear hb
    obtain ⟨bC, bS, bR, LL⟩ := CB2.out _ nc
    have l0 := ld_cli bC
    obtain ⟨q0, q1, q2⟩ := sh_cells _ _ _ _ _ bS
    have KW := Lib.hid (cWith_any h T ba tv sa sn sc rs hl hs HRI.out wx ((HSR.out.below LL).more LL.size))
    clear nc CS CB2
    generalize wiT h T tv rs = X at *
    go_wp2_with fail
    refine KW.out.mono ?_
    rintro e w4 ⟨rfl, m4⟩
    replace bR := bb bR m4
    replace LL := LL.trans (m4.mono LL.size)
    have s4 := st_cli bR true X
    have HS := Lib.hid (cb_full bR true X)
    have HX := Lib.hid (below_setCells (w.heap.size + 2) (by omega) (cliL true X) 0 w _ LL)
    clear bC bS bR LL m4 KW l0 q0 q1 q2
    go_wp2
    simp only [Exit.jump]
    refine bodyPost_ret (results_cli3 rfl _ _ (w.heap.size + 2) _ (0, 0) rfl HS.out (by simp [cliL_len])) rfl ⟨?_, HX.out⟩
    rw [HT.out]
    rfl
end Go.Proofs.Ythgoopdekllanaa
