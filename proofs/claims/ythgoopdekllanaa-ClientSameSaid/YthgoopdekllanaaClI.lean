/- What the document says of clients, awake. -/
import Derived.Test.YthgoopdekllanaaClH
import Derived.Deep.RegionHeldLaw
namespace Go.Proofs.Ythgoopdekllanaa
open Go.RowKit Go.Shelf
open SumM

attribute [local go_sem] Oper.semAt_some guard_undef
attribute [local go_sem ↓] nm_ldT nm_stT nm_ldC nm_stC nm_buT nm_buC
attribute [local go_sem ↓] zero_tab zero_cli
attribute [local go_sem] buS_cliT
attribute [local go_sem] grd_tab grd_cli

/-- A client's box, made and filled. -/
theorem boxC_new (w1 : World) (h : Bool) (S : Nat → Int) : CB w1.heap.size h S ((w1.alloc (.cells (cliL false zeroT).toArray 45)).setCells w1.heap.size 0 (cliL h S)) ∧ Below w1.heap.size w1 ((w1.alloc (.cells (cliL false zeroT).toArray 45)).setCells w1.heap.size 0 (cliL h S)) :=
  ⟨cb_full (show CB w1.heap.size false zeroT (w1.alloc (.cells (cliL false zeroT).toArray 45)) from heap_alloc_new w1 _) h S, below_setCells w1.heap.size (Nat.le_refl _) (cliL h S) 0 w1 _ ((Below.refl _ w1).alloc (Nat.le_refl _) _)⟩

set_option maxRecDepth 100000 in
set_option maxHeartbeats 16000000 in
theorem wakes12_any (w : World) : Calls Try.prog 26 #[] w fun e w' => e = .returned (.bool true) ∧ Below w.heap.size w w' := by
  have e1 := wk1
  have e2 := wk2
  have e3 := wk3
  have e4 := wk4
  have e5 := wk5
  have e6 := wk6
  have e7 := wk7
  have e8 := wk8
  have e9 := wk9
  obtain ⟨e10, e11, e12, e13, e14, e15, e16, e17, e18, e19, e20⟩ := wk10
  have htM : setR (upd newT 0 3) 2 (1, -1, 4, 0) = tM0 := rfl
  have huM : setR (upd newT 0 5) 2 (0, 1, 5, 0) = uM0 := rfl
  have A3 := Lib.hid (fun W => at_any 3 W)
  have A5 := Lib.hid (fun W => at_any 5 W)
  have A2 := Lib.hid (fun W => at_any 2 W)
  have A7 := Lib.hid (fun W => at_any 7 W)
  have A8 := Lib.hid (fun W => at_any 8 W)
  have ld0 : dM0.length = 1 := rfl
  generalize allS tM0 = sM at *
  generalize dM0 = dM at *
  generalize bM0 = bM at *
  generalize aM0 = aM at *
  generalize tM0 = tM at *
  generalize uM0 = uM at *
  generalize upd newT 0 3 = q3 at *
  generalize upd newT 0 5 = q5 at *
  generalize upd newT 0 2 = q2 at *
  generalize upd newT 0 7 = q7 at *
  generalize upd newT 0 8 = q8 at *
  have K1 := Lib.hid (fun W => e1 ▸ r11Of_any tM W)
  have K2 := Lib.hid (fun W => e2 ▸ r11Delta_any q2 uM W)
  have K3 := Lib.hid (fun W => e3 ▸ r11Delta_any q7 q8 W)
  have K4 := Lib.hid (fun S c W h => e4 ▸ cTake_any false zeroT 2 5 S 1 c dM ld0 (by omega) W h)
  have K5 := Lib.hid (fun S c W h => e5 ▸ cTake_any false zeroT (-1) 3 S 16 c sM e18 (by omega) W h)
  have K6 := Lib.hid (fun S c W h => e6 ▸ cTake_any true aM 2 5 S 1 c dM ld0 (by omega) W h)
  have K7 := Lib.hid (fun S c W h => e7 ▸ cTake_any true bM (-1) 3 S 16 c sM e18 (by omega) W h)
  have K8 := Lib.hid (fun S c W h => e8 ▸ cTake_any true bM 7 8 S 0 c [] rfl (by omega) W h)
  have K9 := Lib.hid (fun W => e9 ▸ cBytes_any true bM none 0 0 [] rfl (by omega) (by omega) W (Row.nil _ _ _ _))
  have K10 := Lib.hid (fun W => e10 ▸ cRow_any true bM 2 W)
  have K11 := Lib.hid (fun W => e11 ▸ cRow_any false zeroT 2 W)
  have K12 := Lib.hid (fun W => e12 ▸ cHas_any true aM W)
  have K13 := Lib.hid (fun W => e13 ▸ cHas_any true bM W)
  have K14 := Lib.hid (fun W => e14 ▸ cHas_any false zeroT W)
  have K15 := Lib.hid (fun W => e15 ▸ cRight_any true bM W)
  have K16 := Lib.hid (fun W => e16 ▸ cRight_any false tM W)
  have KN := Lib.hid (fun W => cNew_any W)
  have HE := Lib.hid (And.intro e17 (And.intro e18 (And.intro e19 (And.intro e20 ld0))))
  have HM := Lib.hid (And.intro htM huM)
  clear e1 e2 e3 e4 e5 e6 e7 e8 e9 e10 e11 e12 e13 e14 e15 e16 e17 e18 e19 e20 ld0 htM huM
  go_enter Try.func26, Try.ntmps26
  go_wp2_with fail
  refine (A3.out w).mono ?_
  rintro e w1 ⟨rfl, m1⟩
  go_wp2_with fail
  refine (A5.out w1).mono ?_
  rintro e w2 ⟨rfl, m2⟩
  have LL := m1.trans (m2.mono m1.size)
  clear m1 m2
  have b1 : NB w2.heap.size 26 65 zeroT ((w2.alloc (.cells (numL 65 zeroT).toArray 26)).alloc (.cells (numL 65 zeroT).toArray 26)) := blkN (heap_alloc_new w2 _) _
  have b2 : NB (w2.heap.size + 1) 26 65 zeroT ((w2.alloc (.cells (numL 65 zeroT).toArray 26)).alloc (.cells (numL 65 zeroT).toArray 26)) := newN _ _ _ (by simp)
  have s1 := st_tab b1 q3
  have b1' := nb_full b1 q3
  have b2' : NB (w2.heap.size + 1) 26 65 zeroT (((w2.alloc (.cells (numL 65 zeroT).toArray 26)).alloc (.cells (numL 65 zeroT).toArray 26)).setCells w2.heap.size 0 (numL 65 q3)) := (nb_other (by omega) _ _ _).trans b2
  have s2 := st_tab b2' q5
  have bT : NB w2.heap.size 26 65 q3 ((((w2.alloc (.cells (numL 65 zeroT).toArray 26)).alloc (.cells (numL 65 zeroT).toArray 26)).setCells w2.heap.size 0 (numL 65 q3)).setCells (w2.heap.size + 1) 0 (numL 65 q5)) := (nb_other (by omega) _ _ _).trans b1'
  have bU := nb_full b2' q5
  have L2 : Below w.heap.size w ((((w2.alloc (.cells (numL 65 zeroT).toArray 26)).alloc (.cells (numL 65 zeroT).toArray 26)).setCells w2.heap.size 0 (numL 65 q3)).setCells (w2.heap.size + 1) 0 (numL 65 q5)) :=
    below_setCells _ (by have := LL.size; omega) _ 0 _ _ (below_setCells _ LL.size _ 0 _ _ ((LL.alloc LL.size _).alloc (by have := LL.size; simp; omega) _))
  have hlm := LL.size
  clear b1 b2 b1' b2' LL
  go_upto_region 2 with fail
  clear s1 s2
  generalize (((w2.alloc (.cells (numL 65 zeroT).toArray 26)).alloc (.cells (numL 65 zeroT).toArray 26)).setCells w2.heap.size 0 (numL 65 q3)).setCells (w2.heap.size + 1) 0 (numL 65 q5) = W1 at *
  generalize w2.heap.size = mt at *
  obtain ⟨mu, hmu⟩ : ∃ mu, mt + 1 = mu := ⟨_, rfl⟩
  rw [hmu] at bU
  have hne : mu ≠ mt := by omega
  have hlu : w.heap.size ≤ mu := by omega
  have HMU := Lib.hid (And.intro hne hlu)
  have HMT := Lib.hid hlm
  clear hne hlu hlm
  simp only [hmu]
  clear hmu
  have f0 := nb_frozen bT 9
  have f1 := nb_frozen bT 10
  have f2 := nb_frozen bT 11
  have f3 := nb_frozen bT 12
  have c0 := nb_cell bT (o := 9) (by omega)
  have c1 := nb_cell bT (o := 10) (by omega)
  have c2 := nb_cell bT (o := 11) (by omega)
  have c3 := nb_cell bT (o := 12) (by omega)
  have HA := Lib.hid (show NB mt 26 65 tM ((((W1.setCell ⟨mt, 9, none⟩ (.int .i64 1)).setCell ⟨mt, 10, none⟩ (.int .i64 (-1))).setCell ⟨mt, 11, none⟩ (.int .i64 4)).setCell ⟨mt, 12, none⟩ (.int .i64 0)) ∧ NB mu 26 65 q5 ((((W1.setCell ⟨mt, 9, none⟩ (.int .i64 1)).setCell ⟨mt, 10, none⟩ (.int .i64 (-1))).setCell ⟨mt, 11, none⟩ (.int .i64 4)).setCell ⟨mt, 12, none⟩ (.int .i64 0)) ∧ Below w.heap.size w ((((W1.setCell ⟨mt, 9, none⟩ (.int .i64 1)).setCell ⟨mt, 10, none⟩ (.int .i64 (-1))).setCell ⟨mt, 11, none⟩ (.int .i64 4)).setCell ⟨mt, 12, none⟩ (.int .i64 0)) from
    ⟨HM.out.1 ▸ nb_row bT 2 (1, -1, 4, 0), (nb_other HMU.out.1 [.int .i64 1, .int .i64 (-1), .int .i64 4, .int .i64 0] 9 W1).trans bU, below_setCells mt HMT.out [.int .i64 1, .int .i64 (-1), .int .i64 4, .int .i64 0] 9 _ _ L2⟩)
  clear bT bU L2
  go_upto_region 3 with fail
  clear f0 f1 f2 f3 c0 c1 c2 c3
  obtain ⟨bT, bU, L2⟩ := HA.out
  clear HA
  generalize (((W1.setCell ⟨mt, 9, none⟩ (.int .i64 1)).setCell ⟨mt, 10, none⟩ (.int .i64 (-1))).setCell ⟨mt, 11, none⟩ (.int .i64 4)).setCell ⟨mt, 12, none⟩ (.int .i64 0) = W2 at *
  have f0 := nb_frozen bU 9
  have f1 := nb_frozen bU 10
  have f2 := nb_frozen bU 11
  have f3 := nb_frozen bU 12
  have c0 := nb_cell bU (o := 9) (by omega)
  have c1 := nb_cell bU (o := 10) (by omega)
  have c2 := nb_cell bU (o := 11) (by omega)
  have c3 := nb_cell bU (o := 12) (by omega)
  have HA := Lib.hid (show NB mt 26 65 tM ((((W2.setCell ⟨mu, 9, none⟩ (.int .i64 0)).setCell ⟨mu, 10, none⟩ (.int .i64 1)).setCell ⟨mu, 11, none⟩ (.int .i64 5)).setCell ⟨mu, 12, none⟩ (.int .i64 0)) ∧ NB mu 26 65 uM ((((W2.setCell ⟨mu, 9, none⟩ (.int .i64 0)).setCell ⟨mu, 10, none⟩ (.int .i64 1)).setCell ⟨mu, 11, none⟩ (.int .i64 5)).setCell ⟨mu, 12, none⟩ (.int .i64 0)) ∧ Below w.heap.size w ((((W2.setCell ⟨mu, 9, none⟩ (.int .i64 0)).setCell ⟨mu, 10, none⟩ (.int .i64 1)).setCell ⟨mu, 11, none⟩ (.int .i64 5)).setCell ⟨mu, 12, none⟩ (.int .i64 0)) from
    ⟨(nb_other HMU.out.1.symm [.int .i64 0, .int .i64 1, .int .i64 5, .int .i64 0] 9 W2).trans bT, HM.out.2 ▸ nb_row bU 2 (0, 1, 5, 0), below_setCells mu HMU.out.2 [.int .i64 0, .int .i64 1, .int .i64 5, .int .i64 0] 9 _ _ L2⟩)
  clear bT bU L2
  go_upto_region 4 with fail
  clear f0 f1 f2 f3 c0 c1 c2 c3
  obtain ⟨bT, bU, LL⟩ := HA.out
  clear HA
  generalize (((W2.setCell ⟨mu, 9, none⟩ (.int .i64 0)).setCell ⟨mu, 10, none⟩ (.int .i64 1)).setCell ⟨mu, 11, none⟩ (.int .i64 5)).setCell ⟨mu, 12, none⟩ (.int .i64 0) = W3 at *
  go_cut [3, 4] from 31 (fun p q wx => ∃ b S c, p = .pointer (some ⟨b, 0, none⟩) ∧ q = .int .i64 0 ∧ wx.heap[b]? = some (.cells #[.int .i64 (-1), .int .i64 3, .slice S 16 c] 29 (0, 0)) ∧ SRow5 wx.heap.size wx S sM ∧ Below W3.heap.size W3 wx)
  case first =>
    as_aux_lemma =>
      have nc := Below.refl W3.heap.size W3
      have l0 := ld_tab bT
      go_wp2_with fail
      refine (K1.out W3).mono ?_
      clear l0
      intro e w9 hE
      obtain ⟨S, cS, rfl, hS0, hSc, O1, m1⟩ := ShRet.slice HE.out.2.1 hE
      replace nc := nc.trans (m1.mono nc.size)
      clear hE m1
      have hSR := SRow.of_own rowC_len (by decide) O1
      have hd := heap_alloc_new w9 (.cells #[.int .i64 0, .int .i64 0, .slice none 0 0] 29)
      obtain ⟨z0, z1, z2⟩ := sh_cells _ _ _ _ _ hd
      have f0 := sh_frozen hd 0
      have f1 := sh_frozen hd 1
      have f2 := sh_frozen hd 2
      have m2 := (Below.refl w9.heap.size w9).alloc (Nat.le_refl _) (.cells #[.int .i64 (-1), .int .i64 3, .slice S 16 cS] 29)
      have HB9 := Lib.hid (And.intro (shBox w9 (-1) 3 S 16 cS) (And.intro ((hSR.below m2).more m2.size) (nc.trans (m2.mono nc.size))))
      clear O1 hSR hd m2 nc
      go_wp2_with fail
      go_meet
      exact ⟨_, _, _, rfl, rfl, HB9.out.1, HB9.out.2.1, HB9.out.2.2⟩
  obtain ⟨bs, Sbs, cbs, rfl, rfl, hbs, rbs, nc⟩ := hcut
  generalize wc = W4 at *
  replace bT := bb bT nc
  replace bU := bb bU nc
  replace LL := LL.trans (nc.mono LL.size)
  clear nc
  go_upto_region 5 with fail
  go_cut [5, 6] from 31 (fun p q wx => ∃ b S c, p = .pointer (some ⟨b, 0, none⟩) ∧ q = .int .i64 0 ∧ wx.heap[b]? = some (.cells #[.int .i64 2, .int .i64 5, .slice S 1 c] 29 (0, 0)) ∧ SRow5 wx.heap.size wx S dM ∧ Below W4.heap.size W4 wx)
  case first =>
    as_aux_lemma =>
      have nc := (Below.refl W4.heap.size W4).drew
      have CS := Lib.hid (fun W (m : Below W4.heap.size W4 W) => show (ldS 26 (.pointer (some ⟨mu, 0, none⟩))).run Try.prog W = .ok (tabV uM) W from ld_tab (bb bU m))
      refine wp_region_held_drew (S := fun W => (ldS 26 (.pointer (some ⟨mu, 0, none⟩))).run Try.prog W = .ok (tabV uM) W) (by kernel_rfl) (CS.out _ nc) (fun hHeld => ?_)
      generalize W4.drew = V0 at *
      refine wpAnyH_take (i := 1) (oi := { dst := some 46, op := Op.load 26 (Operand.tmp 2), type := 26, pos := "law.go:25", after := #[], guard := none }) (v := ?_) rfl (by kernel_rfl) (by kernel_rfl) (by kernel_rfl) (fun _ _ _ h => h) (Or.inl ⟨by rfl, ?_⟩) (by assumption) ?_
      rotate_left
      · intro w hSw
        (try dsimp only at hSw)
        first | (go_simp; done) | (go_simp; with_reducible rfl)
      (try simp only [Act.put, List.setIfInBounds_toArray, List.set_cons_zero, List.set_cons_succ])
      refine wpAnyH_ready (rs := [0, 6]) (by kernel_rfl) (by simp) ?_
      refine AllReadyH.cons (o := { dst := some 45, op := Op.call { callee := Callee.value (Operand.func 57), args := #[Operand.const (Value.int IntKind.i64 2)], argTypes := #[3] }, type := 26, pos := "law.go:25", after := #[], guard := none }) rfl (fun K hK => ?_) (AllReadyH.cons (o := { dst := some 5, op := Op.alloc 29, type := 0, pos := "law.go:25", after := #[], guard := none }) rfl (fun K hK => ?_) AllReadyH.nil)
      · skip
        go_simp
        refine (A2.out V0).mono ?_
        rintro e V1 ⟨rfl, jx⟩
        replace nc := nc.trans (jx.mono nc.size)
        clear jx
        clear hHeld
        refine hK.out _ _ (CS.out _ nc) (fun hHeld => ?_)
        clear hK K
        (try simp only [Act.put, List.setIfInBounds_toArray, List.set_cons_zero, List.set_cons_succ])
        refine wpAnyH_ready (rs := [2, 6]) (by kernel_rfl) (by simp) ?_
        refine AllReadyH.cons (o := { dst := some 47, op := Op.call { callee := Callee.value (Operand.func 14), args := #[Operand.tmp 45, Operand.tmp 46], argTypes := #[26, 26] }, type := 34, pos := "law.go:25", after := #[{ on := 0, ground := Ground.data }, { on := 1, ground := Ground.data }, { on := 0, ground := Ground.chain }], guard := none }) rfl (fun K hK => ?_) (AllReadyH.cons (o := { dst := some 5, op := Op.alloc 29, type := 0, pos := "law.go:25", after := #[], guard := none }) rfl (fun K hK => ?_) AllReadyH.nil)
        · skip
          go_simp
          refine (K2.out V1).mono ?_
          intro e V2 hE
          obtain ⟨S9, c9, rfl, hS0, hSc, OO, jx⟩ := ShRet.slice HE.out.2.2.2.2 hE
          replace nc := nc.trans (jx.mono nc.size)
          clear jx
          clear hE
          clear hHeld
          refine hK.out _ _ (CS.out _ nc) (fun hHeld => ?_)
          clear hK K
          (try simp only [Act.put, List.setIfInBounds_toArray, List.set_cons_zero, List.set_cons_succ])
          refine wpAnyH_take (i := 3) (oi := { dst := some 44, op := Op.move (Operand.tmp 47), type := 34, pos := "law.go:25", after := #[{ on := 2, ground := Ground.data }], guard := none }) (v := ?_) rfl (by kernel_rfl) (by kernel_rfl) (by kernel_rfl) (fun _ _ _ h => h) (Or.inl ⟨by rfl, ?_⟩) (by assumption) ?_
          rotate_left
          · intro w hSw
            (try dsimp only at hSw)
            first | (go_simp; done) | (go_simp; with_reducible rfl)
          (try simp only [Act.put, List.setIfInBounds_toArray, List.set_cons_zero, List.set_cons_succ])
          refine wpAnyH_take (i := 4) (oi := { dst := some 48, op := Op.extract (Operand.tmp 44) 0, type := 29, pos := "law.go:25", after := #[{ on := 3, ground := Ground.data }], guard := none }) (v := ?_) rfl (by kernel_rfl) (by kernel_rfl) (by kernel_rfl) (fun _ _ _ h => h) (Or.inl ⟨by rfl, ?_⟩) (by assumption) ?_
          rotate_left
          · intro w hSw
            (try dsimp only at hSw)
            first | (go_simp; done) | (go_simp; with_reducible rfl)
          (try simp only [Act.put, List.setIfInBounds_toArray, List.set_cons_zero, List.set_cons_succ])
          refine wpAnyH_take (i := 5) (oi := { dst := some 49, op := Op.extract (Operand.tmp 44) 1, type := 33, pos := "law.go:25", after := #[{ on := 3, ground := Ground.data }, { on := 7, ground := Ground.gcOnly Departure.lateStores }], guard := none }) (v := ?_) rfl (by kernel_rfl) (by kernel_rfl) (by kernel_rfl) (fun _ _ _ h => h) (Or.inl ⟨by rfl, ?_⟩) (by assumption) ?_
          rotate_left
          · intro w hSw
            (try dsimp only at hSw)
            first | (go_simp; done) | (go_simp; with_reducible rfl)
          (try simp only [Act.put, List.setIfInBounds_toArray, List.set_cons_zero, List.set_cons_succ])
          refine wpAnyH_ready (rs := [6]) (by kernel_rfl) (by simp) ?_
          refine AllReadyH.cons (o := { dst := some 5, op := Op.alloc 29, type := 0, pos := "law.go:25", after := #[], guard := none }) rfl (fun K hK => ?_) AllReadyH.nil
          go_simp
          have hA := heap_alloc_new V2 (.cells #[.int .i64 0, .int .i64 0, .slice none 0 0] 29)
          have hAb := nc.size
          replace nc := nc.alloc nc.size (.cells #[.int .i64 0, .int .i64 0, .slice none 0 0] 29)
          replace OO := OO.alloc (.cells #[.int .i64 0, .int .i64 0, .slice none 0 0] 29)
          clear hHeld
          refine hK.out _ _ (CS.out _ nc) (fun hHeld => ?_)
          clear hK K
          (try simp only [Act.put, List.setIfInBounds_toArray, List.set_cons_zero, List.set_cons_succ])
          generalize V2.alloc (.cells #[.int .i64 0, .int .i64 0, .slice none 0 0] 29) = V3 at *
          generalize V2.heap.size = bA at *
          obtain ⟨z0, z1, z2⟩ := sh_cells _ _ _ _ _ hA
          have f0 := sh_frozen hA 0
          have f1 := sh_frozen hA 1
          have f2 := sh_frozen hA 2
          have OO9 := ownS_apart (t := 29) (e := 63) (by decide) [.int .i64 2, .int .i64 5, .slice S9 1 c9] 0 _ _ OO hA
          have nc9 := below_setCells bA hAb [.int .i64 2, .int .i64 5, .slice S9 1 c9] 0 _ _ nc
          have HA9 := Lib.hid (And.intro (full_setCells hA [.int .i64 2, .int .i64 5, .slice S9 1 c9] rfl) (SRow.of_own rowC_len (by decide) OO9))
          refine wpAnyH_ready (rs := [7]) (by kernel_rfl) (by simp) ?_
          refine AllReadyH.cons (o := { dst := none, op := Op.store 29 (Operand.tmp 5) (Operand.tmp 48), type := 0, pos := "law.go:25", after := #[{ on := 6, ground := Ground.data }, { on := 4, ground := Ground.data }, { on := 2, ground := Ground.chain }, { on := 0, ground := Ground.phase }, { on := 1, ground := Ground.phase }, { on := 2, ground := Ground.phase }, { on := 3, ground := Ground.phase }, { on := 4, ground := Ground.phase }, { on := 5, ground := Ground.textOnly Departure.lateStores }, { on := 6, ground := Ground.phase }], guard := none }) rfl (fun K hK => ?_) AllReadyH.nil
          go_simp
          clear hHeld
          refine hK.out _ _ (CS.out _ nc9) (fun hHeld => ?_)
          clear hK K
          (try simp only [Act.put, List.setIfInBounds_toArray, List.set_cons_zero, List.set_cons_succ])
          refine wpAnyH_take (i := 8) (oi := { dst := some 6, op := Op.assign (Operand.tmp 49), type := 33, pos := "law.go:25", after := #[{ on := 5, ground := Ground.data }, { on := 7, ground := Ground.chain }, { on := 0, ground := Ground.phase }, { on := 1, ground := Ground.phase }, { on := 2, ground := Ground.phase }, { on := 3, ground := Ground.phase }, { on := 4, ground := Ground.phase }, { on := 5, ground := Ground.phase }, { on := 6, ground := Ground.phase }, { on := 7, ground := Ground.phase }], guard := none }) (v := ?_) rfl (by kernel_rfl) (by kernel_rfl) (by kernel_rfl) (fun _ _ _ h => h) (Or.inl ⟨by rfl, ?_⟩) (by assumption) ?_
          rotate_left
          · intro w hSw
            (try dsimp only at hSw)
            first | (go_simp; done) | (go_simp; with_reducible rfl)
          (try simp only [Act.put, List.setIfInBounds_toArray, List.set_cons_zero, List.set_cons_succ])
          refine wpAnyH_done (by kernel_rfl) ?_ _
          have HN9 := Lib.hid nc9
          clear OO OO9 nc9 nc hA z0 z1 z2 f0 f1 f2
          go_wp2_with fail
          go_meet
          exact ⟨_, _, _, rfl, rfl, HA9.out.1, HA9.out.2, HN9.out⟩
        · skip
          go_simp
          have hA := heap_alloc_new V1 (.cells #[.int .i64 0, .int .i64 0, .slice none 0 0] 29)
          have hAb := nc.size
          replace nc := nc.alloc nc.size (.cells #[.int .i64 0, .int .i64 0, .slice none 0 0] 29)
          clear hHeld
          refine hK.out _ _ (CS.out _ nc) (fun hHeld => ?_)
          clear hK K
          (try simp only [Act.put, List.setIfInBounds_toArray, List.set_cons_zero, List.set_cons_succ])
          generalize V1.alloc (.cells #[.int .i64 0, .int .i64 0, .slice none 0 0] 29) = V4 at *
          generalize V1.heap.size = bA at *
          refine wpAnyH_ready (rs := [2]) (by kernel_rfl) (by simp) ?_
          refine AllReadyH.cons (o := { dst := some 47, op := Op.call { callee := Callee.value (Operand.func 14), args := #[Operand.tmp 45, Operand.tmp 46], argTypes := #[26, 26] }, type := 34, pos := "law.go:25", after := #[{ on := 0, ground := Ground.data }, { on := 1, ground := Ground.data }, { on := 0, ground := Ground.chain }], guard := none }) rfl (fun K hK => ?_) AllReadyH.nil
          go_simp
          refine (K2.out V4).mono ?_
          intro e V5 hE
          obtain ⟨S9, c9, rfl, hS0, hSc, OO, jx⟩ := ShRet.slice HE.out.2.2.2.2 hE
          replace hA := bb hA jx
          replace nc := nc.trans (jx.mono nc.size)
          clear jx
          clear hE
          clear hHeld
          refine hK.out _ _ (CS.out _ nc) (fun hHeld => ?_)
          clear hK K
          (try simp only [Act.put, List.setIfInBounds_toArray, List.set_cons_zero, List.set_cons_succ])
          refine wpAnyH_take (i := 3) (oi := { dst := some 44, op := Op.move (Operand.tmp 47), type := 34, pos := "law.go:25", after := #[{ on := 2, ground := Ground.data }], guard := none }) (v := ?_) rfl (by kernel_rfl) (by kernel_rfl) (by kernel_rfl) (fun _ _ _ h => h) (Or.inl ⟨by rfl, ?_⟩) (by assumption) ?_
          rotate_left
          · intro w hSw
            (try dsimp only at hSw)
            first | (go_simp; done) | (go_simp; with_reducible rfl)
          (try simp only [Act.put, List.setIfInBounds_toArray, List.set_cons_zero, List.set_cons_succ])
          refine wpAnyH_take (i := 4) (oi := { dst := some 48, op := Op.extract (Operand.tmp 44) 0, type := 29, pos := "law.go:25", after := #[{ on := 3, ground := Ground.data }], guard := none }) (v := ?_) rfl (by kernel_rfl) (by kernel_rfl) (by kernel_rfl) (fun _ _ _ h => h) (Or.inl ⟨by rfl, ?_⟩) (by assumption) ?_
          rotate_left
          · intro w hSw
            (try dsimp only at hSw)
            first | (go_simp; done) | (go_simp; with_reducible rfl)
          (try simp only [Act.put, List.setIfInBounds_toArray, List.set_cons_zero, List.set_cons_succ])
          refine wpAnyH_take (i := 5) (oi := { dst := some 49, op := Op.extract (Operand.tmp 44) 1, type := 33, pos := "law.go:25", after := #[{ on := 3, ground := Ground.data }, { on := 7, ground := Ground.gcOnly Departure.lateStores }], guard := none }) (v := ?_) rfl (by kernel_rfl) (by kernel_rfl) (by kernel_rfl) (fun _ _ _ h => h) (Or.inl ⟨by rfl, ?_⟩) (by assumption) ?_
          rotate_left
          · intro w hSw
            (try dsimp only at hSw)
            first | (go_simp; done) | (go_simp; with_reducible rfl)
          (try simp only [Act.put, List.setIfInBounds_toArray, List.set_cons_zero, List.set_cons_succ])
          obtain ⟨z0, z1, z2⟩ := sh_cells _ _ _ _ _ hA
          have f0 := sh_frozen hA 0
          have f1 := sh_frozen hA 1
          have f2 := sh_frozen hA 2
          have OO9 := ownS_apart (t := 29) (e := 63) (by decide) [.int .i64 2, .int .i64 5, .slice S9 1 c9] 0 _ _ OO hA
          have nc9 := below_setCells bA hAb [.int .i64 2, .int .i64 5, .slice S9 1 c9] 0 _ _ nc
          have HA9 := Lib.hid (And.intro (full_setCells hA [.int .i64 2, .int .i64 5, .slice S9 1 c9] rfl) (SRow.of_own rowC_len (by decide) OO9))
          refine wpAnyH_ready (rs := [7]) (by kernel_rfl) (by simp) ?_
          refine AllReadyH.cons (o := { dst := none, op := Op.store 29 (Operand.tmp 5) (Operand.tmp 48), type := 0, pos := "law.go:25", after := #[{ on := 6, ground := Ground.data }, { on := 4, ground := Ground.data }, { on := 2, ground := Ground.chain }, { on := 0, ground := Ground.phase }, { on := 1, ground := Ground.phase }, { on := 2, ground := Ground.phase }, { on := 3, ground := Ground.phase }, { on := 4, ground := Ground.phase }, { on := 5, ground := Ground.textOnly Departure.lateStores }, { on := 6, ground := Ground.phase }], guard := none }) rfl (fun K hK => ?_) AllReadyH.nil
          go_simp
          clear hHeld
          refine hK.out _ _ (CS.out _ nc9) (fun hHeld => ?_)
          clear hK K
          (try simp only [Act.put, List.setIfInBounds_toArray, List.set_cons_zero, List.set_cons_succ])
          refine wpAnyH_take (i := 8) (oi := { dst := some 6, op := Op.assign (Operand.tmp 49), type := 33, pos := "law.go:25", after := #[{ on := 5, ground := Ground.data }, { on := 7, ground := Ground.chain }, { on := 0, ground := Ground.phase }, { on := 1, ground := Ground.phase }, { on := 2, ground := Ground.phase }, { on := 3, ground := Ground.phase }, { on := 4, ground := Ground.phase }, { on := 5, ground := Ground.phase }, { on := 6, ground := Ground.phase }, { on := 7, ground := Ground.phase }], guard := none }) (v := ?_) rfl (by kernel_rfl) (by kernel_rfl) (by kernel_rfl) (fun _ _ _ h => h) (Or.inl ⟨by rfl, ?_⟩) (by assumption) ?_
          rotate_left
          · intro w hSw
            (try dsimp only at hSw)
            first | (go_simp; done) | (go_simp; with_reducible rfl)
          (try simp only [Act.put, List.setIfInBounds_toArray, List.set_cons_zero, List.set_cons_succ])
          refine wpAnyH_done (by kernel_rfl) ?_ _
          have HN9 := Lib.hid nc9
          clear OO OO9 nc9 nc hA z0 z1 z2 f0 f1 f2
          go_wp2_with fail
          go_meet
          exact ⟨_, _, _, rfl, rfl, HA9.out.1, HA9.out.2, HN9.out⟩
      · skip
        go_simp
        have hA := heap_alloc_new V0 (.cells #[.int .i64 0, .int .i64 0, .slice none 0 0] 29)
        have hAb := nc.size
        replace nc := nc.alloc nc.size (.cells #[.int .i64 0, .int .i64 0, .slice none 0 0] 29)
        clear hHeld
        refine hK.out _ _ (CS.out _ nc) (fun hHeld => ?_)
        clear hK K
        (try simp only [Act.put, List.setIfInBounds_toArray, List.set_cons_zero, List.set_cons_succ])
        generalize V0.alloc (.cells #[.int .i64 0, .int .i64 0, .slice none 0 0] 29) = V6 at *
        generalize V0.heap.size = bA at *
        refine wpAnyH_ready (rs := [0]) (by kernel_rfl) (by simp) ?_
        refine AllReadyH.cons (o := { dst := some 45, op := Op.call { callee := Callee.value (Operand.func 57), args := #[Operand.const (Value.int IntKind.i64 2)], argTypes := #[3] }, type := 26, pos := "law.go:25", after := #[], guard := none }) rfl (fun K hK => ?_) AllReadyH.nil
        go_simp
        refine (A2.out V6).mono ?_
        rintro e V7 ⟨rfl, jx⟩
        replace hA := bb hA jx
        replace nc := nc.trans (jx.mono nc.size)
        clear jx
        clear hHeld
        refine hK.out _ _ (CS.out _ nc) (fun hHeld => ?_)
        clear hK K
        (try simp only [Act.put, List.setIfInBounds_toArray, List.set_cons_zero, List.set_cons_succ])
        refine wpAnyH_ready (rs := [2]) (by kernel_rfl) (by simp) ?_
        refine AllReadyH.cons (o := { dst := some 47, op := Op.call { callee := Callee.value (Operand.func 14), args := #[Operand.tmp 45, Operand.tmp 46], argTypes := #[26, 26] }, type := 34, pos := "law.go:25", after := #[{ on := 0, ground := Ground.data }, { on := 1, ground := Ground.data }, { on := 0, ground := Ground.chain }], guard := none }) rfl (fun K hK => ?_) AllReadyH.nil
        go_simp
        refine (K2.out V7).mono ?_
        intro e V8 hE
        obtain ⟨S9, c9, rfl, hS0, hSc, OO, jx⟩ := ShRet.slice HE.out.2.2.2.2 hE
        replace hA := bb hA jx
        replace nc := nc.trans (jx.mono nc.size)
        clear jx
        clear hE
        clear hHeld
        refine hK.out _ _ (CS.out _ nc) (fun hHeld => ?_)
        clear hK K
        (try simp only [Act.put, List.setIfInBounds_toArray, List.set_cons_zero, List.set_cons_succ])
        refine wpAnyH_take (i := 3) (oi := { dst := some 44, op := Op.move (Operand.tmp 47), type := 34, pos := "law.go:25", after := #[{ on := 2, ground := Ground.data }], guard := none }) (v := ?_) rfl (by kernel_rfl) (by kernel_rfl) (by kernel_rfl) (fun _ _ _ h => h) (Or.inl ⟨by rfl, ?_⟩) (by assumption) ?_
        rotate_left
        · intro w hSw
          (try dsimp only at hSw)
          first | (go_simp; done) | (go_simp; with_reducible rfl)
        (try simp only [Act.put, List.setIfInBounds_toArray, List.set_cons_zero, List.set_cons_succ])
        refine wpAnyH_take (i := 4) (oi := { dst := some 48, op := Op.extract (Operand.tmp 44) 0, type := 29, pos := "law.go:25", after := #[{ on := 3, ground := Ground.data }], guard := none }) (v := ?_) rfl (by kernel_rfl) (by kernel_rfl) (by kernel_rfl) (fun _ _ _ h => h) (Or.inl ⟨by rfl, ?_⟩) (by assumption) ?_
        rotate_left
        · intro w hSw
          (try dsimp only at hSw)
          first | (go_simp; done) | (go_simp; with_reducible rfl)
        (try simp only [Act.put, List.setIfInBounds_toArray, List.set_cons_zero, List.set_cons_succ])
        refine wpAnyH_take (i := 5) (oi := { dst := some 49, op := Op.extract (Operand.tmp 44) 1, type := 33, pos := "law.go:25", after := #[{ on := 3, ground := Ground.data }, { on := 7, ground := Ground.gcOnly Departure.lateStores }], guard := none }) (v := ?_) rfl (by kernel_rfl) (by kernel_rfl) (by kernel_rfl) (fun _ _ _ h => h) (Or.inl ⟨by rfl, ?_⟩) (by assumption) ?_
        rotate_left
        · intro w hSw
          (try dsimp only at hSw)
          first | (go_simp; done) | (go_simp; with_reducible rfl)
        (try simp only [Act.put, List.setIfInBounds_toArray, List.set_cons_zero, List.set_cons_succ])
        obtain ⟨z0, z1, z2⟩ := sh_cells _ _ _ _ _ hA
        have f0 := sh_frozen hA 0
        have f1 := sh_frozen hA 1
        have f2 := sh_frozen hA 2
        have OO9 := ownS_apart (t := 29) (e := 63) (by decide) [.int .i64 2, .int .i64 5, .slice S9 1 c9] 0 _ _ OO hA
        have nc9 := below_setCells bA hAb [.int .i64 2, .int .i64 5, .slice S9 1 c9] 0 _ _ nc
        have HA9 := Lib.hid (And.intro (full_setCells hA [.int .i64 2, .int .i64 5, .slice S9 1 c9] rfl) (SRow.of_own rowC_len (by decide) OO9))
        refine wpAnyH_ready (rs := [7]) (by kernel_rfl) (by simp) ?_
        refine AllReadyH.cons (o := { dst := none, op := Op.store 29 (Operand.tmp 5) (Operand.tmp 48), type := 0, pos := "law.go:25", after := #[{ on := 6, ground := Ground.data }, { on := 4, ground := Ground.data }, { on := 2, ground := Ground.chain }, { on := 0, ground := Ground.phase }, { on := 1, ground := Ground.phase }, { on := 2, ground := Ground.phase }, { on := 3, ground := Ground.phase }, { on := 4, ground := Ground.phase }, { on := 5, ground := Ground.textOnly Departure.lateStores }, { on := 6, ground := Ground.phase }], guard := none }) rfl (fun K hK => ?_) AllReadyH.nil
        go_simp
        clear hHeld
        refine hK.out _ _ (CS.out _ nc9) (fun hHeld => ?_)
        clear hK K
        (try simp only [Act.put, List.setIfInBounds_toArray, List.set_cons_zero, List.set_cons_succ])
        refine wpAnyH_take (i := 8) (oi := { dst := some 6, op := Op.assign (Operand.tmp 49), type := 33, pos := "law.go:25", after := #[{ on := 5, ground := Ground.data }, { on := 7, ground := Ground.chain }, { on := 0, ground := Ground.phase }, { on := 1, ground := Ground.phase }, { on := 2, ground := Ground.phase }, { on := 3, ground := Ground.phase }, { on := 4, ground := Ground.phase }, { on := 5, ground := Ground.phase }, { on := 6, ground := Ground.phase }, { on := 7, ground := Ground.phase }], guard := none }) (v := ?_) rfl (by kernel_rfl) (by kernel_rfl) (by kernel_rfl) (fun _ _ _ h => h) (Or.inl ⟨by rfl, ?_⟩) (by assumption) ?_
        rotate_left
        · intro w hSw
          (try dsimp only at hSw)
          first | (go_simp; done) | (go_simp; with_reducible rfl)
        (try simp only [Act.put, List.setIfInBounds_toArray, List.set_cons_zero, List.set_cons_succ])
        refine wpAnyH_done (by kernel_rfl) ?_ _
        have HN9 := Lib.hid nc9
        clear OO OO9 nc9 nc hA z0 z1 z2 f0 f1 f2
        go_wp2_with fail
        go_meet
        exact ⟨_, _, _, rfl, rfl, HA9.out.1, HA9.out.2, HN9.out⟩
  obtain ⟨bd, Sbd, cbd, rfl, rfl, hbd, rbd, nc⟩ := hcut
  generalize wc = W5 at *
  replace bT := bb bT nc
  replace bU := bb bU nc
  replace hbs := bb hbs nc
  replace rbs := (rbs.below nc).more nc.size
  replace LL := LL.trans (nc.mono LL.size)
  clear nc
  as_aux_lemma =>
    go_upto_region 6 with fail
    go_cut [7, 8] from 31 (fun p q wx => ∃ b S c, p = .pointer (some ⟨b, 0, none⟩) ∧ q = .int .i64 0 ∧ wx.heap[b]? = some (.cells #[.int .i64 7, .int .i64 8, .slice S 0 c] 29 (0, 0)) ∧ SRow5 wx.heap.size wx S ([] : List SR) ∧ Below W5.heap.size W5 wx)
    case first =>
      as_aux_lemma =>
        have nc := Below.refl W5.heap.size W5
        go_wp2_with fail
        refine (A7.out W5).mono ?_
        rintro e w7 ⟨rfl, m7⟩
        replace nc := nc.trans (m7.mono nc.size)
        clear m7
        go_wp2_with fail
        refine (A8.out w7).mono ?_
        rintro e w8 ⟨rfl, m8⟩
        replace nc := nc.trans (m8.mono nc.size)
        clear m8
        go_wp2_with fail
        refine (K3.out w8).mono ?_
        intro e w9 hE
        obtain ⟨S, cS, rfl, hS0, hSc, O1, m1⟩ := ShRet.slice rfl hE
        replace nc := nc.trans (m1.mono nc.size)
        clear hE m1
        have hSR := SRow.of_own rowC_len (by decide) O1
        have hd := heap_alloc_new w9 (.cells #[.int .i64 0, .int .i64 0, .slice none 0 0] 29)
        obtain ⟨z0, z1, z2⟩ := sh_cells _ _ _ _ _ hd
        have f0 := sh_frozen hd 0
        have f1 := sh_frozen hd 1
        have f2 := sh_frozen hd 2
        have m2 := (Below.refl w9.heap.size w9).alloc (Nat.le_refl _) (.cells #[.int .i64 7, .int .i64 8, .slice S 0 cS] 29)
        have HB9 := Lib.hid (And.intro (shBox w9 7 8 S 0 cS) (And.intro ((hSR.below m2).more m2.size) (nc.trans (m2.mono nc.size))))
        clear O1 hSR hd m2 nc
        go_wp2_with fail
        go_meet
        exact ⟨_, _, _, rfl, rfl, HB9.out.1, HB9.out.2.1, HB9.out.2.2⟩
    obtain ⟨bg, Sbg, cbg, rfl, rfl, hbg, rbg, nc⟩ := hcut
    generalize wc = W6 at *
    replace bT := bb bT nc
    replace bU := bb bU nc
    replace hbs := bb hbs nc
    replace rbs := (rbs.below nc).more nc.size
    replace hbd := bb hbd nc
    replace rbd := (rbd.below nc).more nc.size
    replace LL := LL.trans (nc.mono LL.size)
    clear nc
    go_upto_region 7 with fail
    go_cut [9, 10, 11] from 31 (fun p q r wx => ∃ b, p = .pointer (some ⟨b, 0, none⟩) ∧ q = .bool false ∧ r = .int .i64 120 ∧ CB b false zeroT wx ∧ Below W6.heap.size W6 wx)
    case first =>
      as_aux_lemma =>
        have nc := (Below.refl W6.heap.size W6).drew
        have CS := Lib.hid (fun W (m : Below W6.heap.size W6 W) => show W.cell? ⟨bd, 0, none⟩ = some (.int .i64 2) ∧ W.cell? ⟨bd, 1, none⟩ = some (.int .i64 5) ∧ W.cell? ⟨bd, 2, none⟩ = some (.slice Sbd 1 cbd) from sh_cells _ _ _ _ _ (bb hbd m))
        refine wp_region_held_drew (S := fun W => W.cell? ⟨bd, 0, none⟩ = some (.int .i64 2) ∧ W.cell? ⟨bd, 1, none⟩ = some (.int .i64 5) ∧ W.cell? ⟨bd, 2, none⟩ = some (.slice Sbd 1 cbd)) (by kernel_rfl) (CS.out _ nc) (fun hHeld => ?_)
        generalize W6.drew = V0 at *
        refine wpAnyH_take (i := 1) (oi := { dst := some 58, op := Op.load 29 (Operand.tmp 5), type := 29, pos := "law.go:27", after := #[], guard := none }) (v := ?_) rfl (by kernel_rfl) (by kernel_rfl) (by kernel_rfl) (fun _ _ _ h => h) (Or.inl ⟨by rfl, ?_⟩) (by assumption) ?_
        rotate_left
        · intro w hSw
          (try dsimp only at hSw)
          first | (go_simp; done) | (go_simp; with_reducible rfl)
        (try simp only [Act.put, List.setIfInBounds_toArray, List.set_cons_zero, List.set_cons_succ])
        refine wpAnyH_ready (rs := [0, 7]) (by kernel_rfl) (by simp) ?_
        refine AllReadyH.cons (o := { dst := some 57, op := Op.call { callee := Callee.value (Operand.func 37), args := #[], argTypes := #[] }, type := 45, pos := "law.go:27", after := #[], guard := none }) rfl (fun K hK => ?_) (AllReadyH.cons (o := { dst := some 9, op := Op.alloc 45, type := 0, pos := "law.go:27", after := #[], guard := none }) rfl (fun K hK => ?_) AllReadyH.nil)
        · skip
          go_simp
          refine (KN.out V0).mono ?_
          rintro e V1 ⟨rfl, jx⟩
          replace nc := nc.trans (jx.mono nc.size)
          clear jx
          clear hHeld
          refine hK.out _ _ (CS.out _ nc) (fun hHeld => ?_)
          clear hK K
          (try simp only [Act.put, List.setIfInBounds_toArray, List.set_cons_zero, List.set_cons_succ])
          refine wpAnyH_ready (rs := [2, 7]) (by kernel_rfl) (by simp) ?_
          refine AllReadyH.cons (o := { dst := some 59, op := Op.call { callee := Callee.value (Operand.func 27), args := #[Operand.tmp 57, Operand.tmp 58], argTypes := #[45, 29] }, type := 46, pos := "law.go:27", after := #[{ on := 0, ground := Ground.data }, { on := 1, ground := Ground.data }, { on := 0, ground := Ground.chain }], guard := none }) rfl (fun K hK => ?_) (AllReadyH.cons (o := { dst := some 9, op := Op.alloc 45, type := 0, pos := "law.go:27", after := #[], guard := none }) rfl (fun K hK => ?_) AllReadyH.nil)
          · skip
            go_simp
            refine (K4.out Sbd cbd V1 ((rbd.below nc).more nc.size)).mono ?_
            rintro e V2 ⟨rfl, jx⟩
            replace nc := nc.trans (jx.mono nc.size)
            clear jx
            clear hHeld
            refine hK.out _ _ (CS.out _ nc) (fun hHeld => ?_)
            clear hK K
            (try dsimp only)
            refine wpAnyH_take (i := 3) (oi := { dst := some 56, op := Op.move (Operand.tmp 59), type := 46, pos := "law.go:27", after := #[{ on := 2, ground := Ground.data }], guard := none }) (v := ?_) rfl (by kernel_rfl) (by kernel_rfl) (by kernel_rfl) (fun _ _ _ h => h) (Or.inl ⟨by rfl, ?_⟩) (by assumption) ?_
            rotate_left
            · intro w hSw
              (try dsimp only at hSw)
              first | (go_simp; done) | (go_simp; with_reducible rfl)
            (try simp only [Act.put, List.setIfInBounds_toArray, List.set_cons_zero, List.set_cons_succ])
            refine wpAnyH_take (i := 4) (oi := { dst := some 60, op := Op.extract (Operand.tmp 56) 0, type := 45, pos := "law.go:27", after := #[{ on := 3, ground := Ground.data }], guard := none }) (v := ?_) rfl (by kernel_rfl) (by kernel_rfl) (by kernel_rfl) (fun _ _ _ h => h) (Or.inl ⟨by rfl, ?_⟩) (by assumption) ?_
            rotate_left
            · intro w hSw
              (try dsimp only at hSw)
              first | (go_simp; done) | (go_simp; with_reducible rfl)
            (try simp only [Act.put, List.setIfInBounds_toArray, List.set_cons_zero, List.set_cons_succ])
            refine wpAnyH_take (i := 5) (oi := { dst := some 61, op := Op.extract (Operand.tmp 56) 1, type := 4, pos := "law.go:27", after := #[{ on := 3, ground := Ground.data }, { on := 8, ground := Ground.gcOnly Departure.lateStores }], guard := none }) (v := ?_) rfl (by kernel_rfl) (by kernel_rfl) (by kernel_rfl) (fun _ _ _ h => h) (Or.inl ⟨by rfl, ?_⟩) (by assumption) ?_
            rotate_left
            · intro w hSw
              (try dsimp only at hSw)
              first | (go_simp; done) | (go_simp; with_reducible rfl)
            (try simp only [Act.put, List.setIfInBounds_toArray, List.set_cons_zero, List.set_cons_succ])
            refine wpAnyH_take (i := 6) (oi := { dst := some 62, op := Op.extract (Operand.tmp 56) 2, type := 33, pos := "law.go:27", after := #[{ on := 3, ground := Ground.data }, { on := 9, ground := Ground.gcOnly Departure.lateStores }], guard := none }) (v := ?_) rfl (by kernel_rfl) (by kernel_rfl) (by kernel_rfl) (fun _ _ _ h => h) (Or.inl ⟨by rfl, ?_⟩) (by assumption) ?_
            rotate_left
            · intro w hSw
              (try dsimp only at hSw)
              first | (go_simp; done) | (go_simp; with_reducible rfl)
            (try simp only [Act.put, List.setIfInBounds_toArray, List.set_cons_zero, List.set_cons_succ])
            refine wpAnyH_ready (rs := [7]) (by kernel_rfl) (by simp) ?_
            refine AllReadyH.cons (o := { dst := some 9, op := Op.alloc 45, type := 0, pos := "law.go:27", after := #[], guard := none }) rfl (fun K hK => ?_) AllReadyH.nil
            go_simp
            have hA := heap_alloc_new V2 (.cells (cliL false zeroT).toArray 45)
            have hAb := nc.size
            replace nc := nc.alloc nc.size (.cells (cliL false zeroT).toArray 45)
            clear hHeld
            refine hK.out _ _ (CS.out _ nc) (fun hHeld => ?_)
            clear hK K
            (try simp only [Act.put, List.setIfInBounds_toArray, List.set_cons_zero, List.set_cons_succ])
            generalize V2.alloc (.cells (cliL false zeroT).toArray 45) = V3 at *
            generalize V2.heap.size = bA at *
            have s9 := st_cli hA false zeroT
            have nc9 := below_setCells bA hAb (cliL false zeroT) 0 _ _ nc
            have HA9 := Lib.hid (cb_full hA false zeroT)
            refine wpAnyH_ready (rs := [8]) (by kernel_rfl) (by simp) ?_
            refine AllReadyH.cons (o := { dst := none, op := Op.store 45 (Operand.tmp 9) (Operand.tmp 60), type := 0, pos := "law.go:27", after := #[{ on := 7, ground := Ground.data }, { on := 4, ground := Ground.data }, { on := 2, ground := Ground.chain }, { on := 0, ground := Ground.phase }, { on := 1, ground := Ground.phase }, { on := 2, ground := Ground.phase }, { on := 3, ground := Ground.phase }, { on := 4, ground := Ground.phase }, { on := 5, ground := Ground.textOnly Departure.lateStores }, { on := 6, ground := Ground.textOnly Departure.lateStores }, { on := 7, ground := Ground.phase }], guard := none }) rfl (fun K hK => ?_) AllReadyH.nil
            go_simp
            clear hHeld
            refine hK.out _ _ (CS.out _ nc9) (fun hHeld => ?_)
            clear hK K
            (try simp only [Act.put, List.setIfInBounds_toArray, List.set_cons_zero, List.set_cons_succ])
            refine wpAnyH_take (i := 9) (oi := { dst := some 10, op := Op.assign (Operand.tmp 61), type := 4, pos := "law.go:27", after := #[{ on := 5, ground := Ground.data }, { on := 8, ground := Ground.chain }, { on := 0, ground := Ground.phase }, { on := 1, ground := Ground.phase }, { on := 2, ground := Ground.phase }, { on := 3, ground := Ground.phase }, { on := 4, ground := Ground.phase }, { on := 5, ground := Ground.phase }, { on := 6, ground := Ground.textOnly Departure.lateStores }, { on := 7, ground := Ground.phase }, { on := 8, ground := Ground.phase }], guard := none }) (v := ?_) rfl (by kernel_rfl) (by kernel_rfl) (by kernel_rfl) (fun _ _ _ h => h) (Or.inl ⟨by rfl, ?_⟩) (by assumption) ?_
            rotate_left
            · intro w hSw
              (try dsimp only at hSw)
              first | (go_simp; done) | (go_simp; with_reducible rfl)
            (try simp only [Act.put, List.setIfInBounds_toArray, List.set_cons_zero, List.set_cons_succ])
            refine wpAnyH_take (i := 10) (oi := { dst := some 11, op := Op.assign (Operand.tmp 62), type := 33, pos := "law.go:27", after := #[{ on := 6, ground := Ground.data }, { on := 9, ground := Ground.chain }, { on := 0, ground := Ground.phase }, { on := 1, ground := Ground.phase }, { on := 2, ground := Ground.phase }, { on := 3, ground := Ground.phase }, { on := 4, ground := Ground.phase }, { on := 5, ground := Ground.phase }, { on := 6, ground := Ground.phase }, { on := 7, ground := Ground.phase }, { on := 8, ground := Ground.phase }, { on := 9, ground := Ground.phase }], guard := none }) (v := ?_) rfl (by kernel_rfl) (by kernel_rfl) (by kernel_rfl) (fun _ _ _ h => h) (Or.inl ⟨by rfl, ?_⟩) (by assumption) ?_
            rotate_left
            · intro w hSw
              (try dsimp only at hSw)
              first | (go_simp; done) | (go_simp; with_reducible rfl)
            (try simp only [Act.put, List.setIfInBounds_toArray, List.set_cons_zero, List.set_cons_succ])
            refine wpAnyH_done (by kernel_rfl) ?_ _
            have HN9 := Lib.hid nc9
            clear nc9 nc hA s9
            go_wp2_with fail
            go_meet
            exact ⟨_, rfl, rfl, rfl, HA9.out, HN9.out⟩
          · skip
            go_simp
            have hA := heap_alloc_new V1 (.cells (cliL false zeroT).toArray 45)
            have hAb := nc.size
            replace nc := nc.alloc nc.size (.cells (cliL false zeroT).toArray 45)
            clear hHeld
            refine hK.out _ _ (CS.out _ nc) (fun hHeld => ?_)
            clear hK K
            (try simp only [Act.put, List.setIfInBounds_toArray, List.set_cons_zero, List.set_cons_succ])
            generalize V1.alloc (.cells (cliL false zeroT).toArray 45) = V4 at *
            generalize V1.heap.size = bA at *
            refine wpAnyH_ready (rs := [2]) (by kernel_rfl) (by simp) ?_
            refine AllReadyH.cons (o := { dst := some 59, op := Op.call { callee := Callee.value (Operand.func 27), args := #[Operand.tmp 57, Operand.tmp 58], argTypes := #[45, 29] }, type := 46, pos := "law.go:27", after := #[{ on := 0, ground := Ground.data }, { on := 1, ground := Ground.data }, { on := 0, ground := Ground.chain }], guard := none }) rfl (fun K hK => ?_) AllReadyH.nil
            go_simp
            refine (K4.out Sbd cbd V4 ((rbd.below nc).more nc.size)).mono ?_
            rintro e V5 ⟨rfl, jx⟩
            replace hA := bb hA jx
            replace nc := nc.trans (jx.mono nc.size)
            clear jx
            clear hHeld
            refine hK.out _ _ (CS.out _ nc) (fun hHeld => ?_)
            clear hK K
            (try dsimp only)
            refine wpAnyH_take (i := 3) (oi := { dst := some 56, op := Op.move (Operand.tmp 59), type := 46, pos := "law.go:27", after := #[{ on := 2, ground := Ground.data }], guard := none }) (v := ?_) rfl (by kernel_rfl) (by kernel_rfl) (by kernel_rfl) (fun _ _ _ h => h) (Or.inl ⟨by rfl, ?_⟩) (by assumption) ?_
            rotate_left
            · intro w hSw
              (try dsimp only at hSw)
              first | (go_simp; done) | (go_simp; with_reducible rfl)
            (try simp only [Act.put, List.setIfInBounds_toArray, List.set_cons_zero, List.set_cons_succ])
            refine wpAnyH_take (i := 4) (oi := { dst := some 60, op := Op.extract (Operand.tmp 56) 0, type := 45, pos := "law.go:27", after := #[{ on := 3, ground := Ground.data }], guard := none }) (v := ?_) rfl (by kernel_rfl) (by kernel_rfl) (by kernel_rfl) (fun _ _ _ h => h) (Or.inl ⟨by rfl, ?_⟩) (by assumption) ?_
            rotate_left
            · intro w hSw
              (try dsimp only at hSw)
              first | (go_simp; done) | (go_simp; with_reducible rfl)
            (try simp only [Act.put, List.setIfInBounds_toArray, List.set_cons_zero, List.set_cons_succ])
            refine wpAnyH_take (i := 5) (oi := { dst := some 61, op := Op.extract (Operand.tmp 56) 1, type := 4, pos := "law.go:27", after := #[{ on := 3, ground := Ground.data }, { on := 8, ground := Ground.gcOnly Departure.lateStores }], guard := none }) (v := ?_) rfl (by kernel_rfl) (by kernel_rfl) (by kernel_rfl) (fun _ _ _ h => h) (Or.inl ⟨by rfl, ?_⟩) (by assumption) ?_
            rotate_left
            · intro w hSw
              (try dsimp only at hSw)
              first | (go_simp; done) | (go_simp; with_reducible rfl)
            (try simp only [Act.put, List.setIfInBounds_toArray, List.set_cons_zero, List.set_cons_succ])
            refine wpAnyH_take (i := 6) (oi := { dst := some 62, op := Op.extract (Operand.tmp 56) 2, type := 33, pos := "law.go:27", after := #[{ on := 3, ground := Ground.data }, { on := 9, ground := Ground.gcOnly Departure.lateStores }], guard := none }) (v := ?_) rfl (by kernel_rfl) (by kernel_rfl) (by kernel_rfl) (fun _ _ _ h => h) (Or.inl ⟨by rfl, ?_⟩) (by assumption) ?_
            rotate_left
            · intro w hSw
              (try dsimp only at hSw)
              first | (go_simp; done) | (go_simp; with_reducible rfl)
            (try simp only [Act.put, List.setIfInBounds_toArray, List.set_cons_zero, List.set_cons_succ])
            have s9 := st_cli hA false zeroT
            have nc9 := below_setCells bA hAb (cliL false zeroT) 0 _ _ nc
            have HA9 := Lib.hid (cb_full hA false zeroT)
            refine wpAnyH_ready (rs := [8]) (by kernel_rfl) (by simp) ?_
            refine AllReadyH.cons (o := { dst := none, op := Op.store 45 (Operand.tmp 9) (Operand.tmp 60), type := 0, pos := "law.go:27", after := #[{ on := 7, ground := Ground.data }, { on := 4, ground := Ground.data }, { on := 2, ground := Ground.chain }, { on := 0, ground := Ground.phase }, { on := 1, ground := Ground.phase }, { on := 2, ground := Ground.phase }, { on := 3, ground := Ground.phase }, { on := 4, ground := Ground.phase }, { on := 5, ground := Ground.textOnly Departure.lateStores }, { on := 6, ground := Ground.textOnly Departure.lateStores }, { on := 7, ground := Ground.phase }], guard := none }) rfl (fun K hK => ?_) AllReadyH.nil
            go_simp
            clear hHeld
            refine hK.out _ _ (CS.out _ nc9) (fun hHeld => ?_)
            clear hK K
            (try simp only [Act.put, List.setIfInBounds_toArray, List.set_cons_zero, List.set_cons_succ])
            refine wpAnyH_take (i := 9) (oi := { dst := some 10, op := Op.assign (Operand.tmp 61), type := 4, pos := "law.go:27", after := #[{ on := 5, ground := Ground.data }, { on := 8, ground := Ground.chain }, { on := 0, ground := Ground.phase }, { on := 1, ground := Ground.phase }, { on := 2, ground := Ground.phase }, { on := 3, ground := Ground.phase }, { on := 4, ground := Ground.phase }, { on := 5, ground := Ground.phase }, { on := 6, ground := Ground.textOnly Departure.lateStores }, { on := 7, ground := Ground.phase }, { on := 8, ground := Ground.phase }], guard := none }) (v := ?_) rfl (by kernel_rfl) (by kernel_rfl) (by kernel_rfl) (fun _ _ _ h => h) (Or.inl ⟨by rfl, ?_⟩) (by assumption) ?_
            rotate_left
            · intro w hSw
              (try dsimp only at hSw)
              first | (go_simp; done) | (go_simp; with_reducible rfl)
            (try simp only [Act.put, List.setIfInBounds_toArray, List.set_cons_zero, List.set_cons_succ])
            refine wpAnyH_take (i := 10) (oi := { dst := some 11, op := Op.assign (Operand.tmp 62), type := 33, pos := "law.go:27", after := #[{ on := 6, ground := Ground.data }, { on := 9, ground := Ground.chain }, { on := 0, ground := Ground.phase }, { on := 1, ground := Ground.phase }, { on := 2, ground := Ground.phase }, { on := 3, ground := Ground.phase }, { on := 4, ground := Ground.phase }, { on := 5, ground := Ground.phase }, { on := 6, ground := Ground.phase }, { on := 7, ground := Ground.phase }, { on := 8, ground := Ground.phase }, { on := 9, ground := Ground.phase }], guard := none }) (v := ?_) rfl (by kernel_rfl) (by kernel_rfl) (by kernel_rfl) (fun _ _ _ h => h) (Or.inl ⟨by rfl, ?_⟩) (by assumption) ?_
            rotate_left
            · intro w hSw
              (try dsimp only at hSw)
              first | (go_simp; done) | (go_simp; with_reducible rfl)
            (try simp only [Act.put, List.setIfInBounds_toArray, List.set_cons_zero, List.set_cons_succ])
            refine wpAnyH_done (by kernel_rfl) ?_ _
            have HN9 := Lib.hid nc9
            clear nc9 nc hA s9
            go_wp2_with fail
            go_meet
            exact ⟨_, rfl, rfl, rfl, HA9.out, HN9.out⟩
        · skip
          go_simp
          have hA := heap_alloc_new V0 (.cells (cliL false zeroT).toArray 45)
          have hAb := nc.size
          replace nc := nc.alloc nc.size (.cells (cliL false zeroT).toArray 45)
          clear hHeld
          refine hK.out _ _ (CS.out _ nc) (fun hHeld => ?_)
          clear hK K
          (try simp only [Act.put, List.setIfInBounds_toArray, List.set_cons_zero, List.set_cons_succ])
          generalize V0.alloc (.cells (cliL false zeroT).toArray 45) = V6 at *
          generalize V0.heap.size = bA at *
          refine wpAnyH_ready (rs := [0]) (by kernel_rfl) (by simp) ?_
          refine AllReadyH.cons (o := { dst := some 57, op := Op.call { callee := Callee.value (Operand.func 37), args := #[], argTypes := #[] }, type := 45, pos := "law.go:27", after := #[], guard := none }) rfl (fun K hK => ?_) AllReadyH.nil
          go_simp
          refine (KN.out V6).mono ?_
          rintro e V7 ⟨rfl, jx⟩
          replace hA := bb hA jx
          replace nc := nc.trans (jx.mono nc.size)
          clear jx
          clear hHeld
          refine hK.out _ _ (CS.out _ nc) (fun hHeld => ?_)
          clear hK K
          (try simp only [Act.put, List.setIfInBounds_toArray, List.set_cons_zero, List.set_cons_succ])
          refine wpAnyH_ready (rs := [2]) (by kernel_rfl) (by simp) ?_
          refine AllReadyH.cons (o := { dst := some 59, op := Op.call { callee := Callee.value (Operand.func 27), args := #[Operand.tmp 57, Operand.tmp 58], argTypes := #[45, 29] }, type := 46, pos := "law.go:27", after := #[{ on := 0, ground := Ground.data }, { on := 1, ground := Ground.data }, { on := 0, ground := Ground.chain }], guard := none }) rfl (fun K hK => ?_) AllReadyH.nil
          go_simp
          refine (K4.out Sbd cbd V7 ((rbd.below nc).more nc.size)).mono ?_
          rintro e V8 ⟨rfl, jx⟩
          replace hA := bb hA jx
          replace nc := nc.trans (jx.mono nc.size)
          clear jx
          clear hHeld
          refine hK.out _ _ (CS.out _ nc) (fun hHeld => ?_)
          clear hK K
          (try dsimp only)
          refine wpAnyH_take (i := 3) (oi := { dst := some 56, op := Op.move (Operand.tmp 59), type := 46, pos := "law.go:27", after := #[{ on := 2, ground := Ground.data }], guard := none }) (v := ?_) rfl (by kernel_rfl) (by kernel_rfl) (by kernel_rfl) (fun _ _ _ h => h) (Or.inl ⟨by rfl, ?_⟩) (by assumption) ?_
          rotate_left
          · intro w hSw
            (try dsimp only at hSw)
            first | (go_simp; done) | (go_simp; with_reducible rfl)
          (try simp only [Act.put, List.setIfInBounds_toArray, List.set_cons_zero, List.set_cons_succ])
          refine wpAnyH_take (i := 4) (oi := { dst := some 60, op := Op.extract (Operand.tmp 56) 0, type := 45, pos := "law.go:27", after := #[{ on := 3, ground := Ground.data }], guard := none }) (v := ?_) rfl (by kernel_rfl) (by kernel_rfl) (by kernel_rfl) (fun _ _ _ h => h) (Or.inl ⟨by rfl, ?_⟩) (by assumption) ?_
          rotate_left
          · intro w hSw
            (try dsimp only at hSw)
            first | (go_simp; done) | (go_simp; with_reducible rfl)
          (try simp only [Act.put, List.setIfInBounds_toArray, List.set_cons_zero, List.set_cons_succ])
          refine wpAnyH_take (i := 5) (oi := { dst := some 61, op := Op.extract (Operand.tmp 56) 1, type := 4, pos := "law.go:27", after := #[{ on := 3, ground := Ground.data }, { on := 8, ground := Ground.gcOnly Departure.lateStores }], guard := none }) (v := ?_) rfl (by kernel_rfl) (by kernel_rfl) (by kernel_rfl) (fun _ _ _ h => h) (Or.inl ⟨by rfl, ?_⟩) (by assumption) ?_
          rotate_left
          · intro w hSw
            (try dsimp only at hSw)
            first | (go_simp; done) | (go_simp; with_reducible rfl)
          (try simp only [Act.put, List.setIfInBounds_toArray, List.set_cons_zero, List.set_cons_succ])
          refine wpAnyH_take (i := 6) (oi := { dst := some 62, op := Op.extract (Operand.tmp 56) 2, type := 33, pos := "law.go:27", after := #[{ on := 3, ground := Ground.data }, { on := 9, ground := Ground.gcOnly Departure.lateStores }], guard := none }) (v := ?_) rfl (by kernel_rfl) (by kernel_rfl) (by kernel_rfl) (fun _ _ _ h => h) (Or.inl ⟨by rfl, ?_⟩) (by assumption) ?_
          rotate_left
          · intro w hSw
            (try dsimp only at hSw)
            first | (go_simp; done) | (go_simp; with_reducible rfl)
          (try simp only [Act.put, List.setIfInBounds_toArray, List.set_cons_zero, List.set_cons_succ])
          have s9 := st_cli hA false zeroT
          have nc9 := below_setCells bA hAb (cliL false zeroT) 0 _ _ nc
          have HA9 := Lib.hid (cb_full hA false zeroT)
          refine wpAnyH_ready (rs := [8]) (by kernel_rfl) (by simp) ?_
          refine AllReadyH.cons (o := { dst := none, op := Op.store 45 (Operand.tmp 9) (Operand.tmp 60), type := 0, pos := "law.go:27", after := #[{ on := 7, ground := Ground.data }, { on := 4, ground := Ground.data }, { on := 2, ground := Ground.chain }, { on := 0, ground := Ground.phase }, { on := 1, ground := Ground.phase }, { on := 2, ground := Ground.phase }, { on := 3, ground := Ground.phase }, { on := 4, ground := Ground.phase }, { on := 5, ground := Ground.textOnly Departure.lateStores }, { on := 6, ground := Ground.textOnly Departure.lateStores }, { on := 7, ground := Ground.phase }], guard := none }) rfl (fun K hK => ?_) AllReadyH.nil
          go_simp
          clear hHeld
          refine hK.out _ _ (CS.out _ nc9) (fun hHeld => ?_)
          clear hK K
          (try simp only [Act.put, List.setIfInBounds_toArray, List.set_cons_zero, List.set_cons_succ])
          refine wpAnyH_take (i := 9) (oi := { dst := some 10, op := Op.assign (Operand.tmp 61), type := 4, pos := "law.go:27", after := #[{ on := 5, ground := Ground.data }, { on := 8, ground := Ground.chain }, { on := 0, ground := Ground.phase }, { on := 1, ground := Ground.phase }, { on := 2, ground := Ground.phase }, { on := 3, ground := Ground.phase }, { on := 4, ground := Ground.phase }, { on := 5, ground := Ground.phase }, { on := 6, ground := Ground.textOnly Departure.lateStores }, { on := 7, ground := Ground.phase }, { on := 8, ground := Ground.phase }], guard := none }) (v := ?_) rfl (by kernel_rfl) (by kernel_rfl) (by kernel_rfl) (fun _ _ _ h => h) (Or.inl ⟨by rfl, ?_⟩) (by assumption) ?_
          rotate_left
          · intro w hSw
            (try dsimp only at hSw)
            first | (go_simp; done) | (go_simp; with_reducible rfl)
          (try simp only [Act.put, List.setIfInBounds_toArray, List.set_cons_zero, List.set_cons_succ])
          refine wpAnyH_take (i := 10) (oi := { dst := some 11, op := Op.assign (Operand.tmp 62), type := 33, pos := "law.go:27", after := #[{ on := 6, ground := Ground.data }, { on := 9, ground := Ground.chain }, { on := 0, ground := Ground.phase }, { on := 1, ground := Ground.phase }, { on := 2, ground := Ground.phase }, { on := 3, ground := Ground.phase }, { on := 4, ground := Ground.phase }, { on := 5, ground := Ground.phase }, { on := 6, ground := Ground.phase }, { on := 7, ground := Ground.phase }, { on := 8, ground := Ground.phase }, { on := 9, ground := Ground.phase }], guard := none }) (v := ?_) rfl (by kernel_rfl) (by kernel_rfl) (by kernel_rfl) (fun _ _ _ h => h) (Or.inl ⟨by rfl, ?_⟩) (by assumption) ?_
          rotate_left
          · intro w hSw
            (try dsimp only at hSw)
            first | (go_simp; done) | (go_simp; with_reducible rfl)
          (try simp only [Act.put, List.setIfInBounds_toArray, List.set_cons_zero, List.set_cons_succ])
          refine wpAnyH_done (by kernel_rfl) ?_ _
          have HN9 := Lib.hid nc9
          clear nc9 nc hA s9
          go_wp2_with fail
          go_meet
          exact ⟨_, rfl, rfl, rfl, HA9.out, HN9.out⟩
    obtain ⟨bx, rfl, rfl, rfl, hbx, nc⟩ := hcut
    generalize wc = W7 at *
    replace bT := bb bT nc
    replace bU := bb bU nc
    replace hbs := bb hbs nc
    replace rbs := (rbs.below nc).more nc.size
    replace hbd := bb hbd nc
    replace rbd := (rbd.below nc).more nc.size
    replace hbg := bb hbg nc
    replace rbg := (rbg.below nc).more nc.size
    replace LL := LL.trans (nc.mono LL.size)
    clear nc
    go_upto_region 8 with fail
    go_cut [12, 13, 14] from 31 (fun p q r wx => ∃ b, p = .pointer (some ⟨b, 0, none⟩) ∧ q = .bool true ∧ r = .int .i64 0 ∧ CB b true aM wx ∧ Below W7.heap.size W7 wx)
    case first =>
      as_aux_lemma =>
        have nc := (Below.refl W7.heap.size W7).drew
        have CS := Lib.hid (fun W (m : Below W7.heap.size W7 W) => show W.cell? ⟨bs, 0, none⟩ = some (.int .i64 (-1)) ∧ W.cell? ⟨bs, 1, none⟩ = some (.int .i64 3) ∧ W.cell? ⟨bs, 2, none⟩ = some (.slice Sbs 16 cbs) from sh_cells _ _ _ _ _ (bb hbs m))
        refine wp_region_held_drew (S := fun W => W.cell? ⟨bs, 0, none⟩ = some (.int .i64 (-1)) ∧ W.cell? ⟨bs, 1, none⟩ = some (.int .i64 3) ∧ W.cell? ⟨bs, 2, none⟩ = some (.slice Sbs 16 cbs)) (by kernel_rfl) (CS.out _ nc) (fun hHeld => ?_)
        generalize W7.drew = V0 at *
        refine wpAnyH_take (i := 1) (oi := { dst := some 65, op := Op.load 29 (Operand.tmp 3), type := 29, pos := "law.go:28", after := #[], guard := none }) (v := ?_) rfl (by kernel_rfl) (by kernel_rfl) (by kernel_rfl) (fun _ _ _ h => h) (Or.inl ⟨by rfl, ?_⟩) (by assumption) ?_
        rotate_left
        · intro w hSw
          (try dsimp only at hSw)
          first | (go_simp; done) | (go_simp; with_reducible rfl)
        (try simp only [Act.put, List.setIfInBounds_toArray, List.set_cons_zero, List.set_cons_succ])
        refine wpAnyH_ready (rs := [0, 7]) (by kernel_rfl) (by simp) ?_
        refine AllReadyH.cons (o := { dst := some 64, op := Op.call { callee := Callee.value (Operand.func 37), args := #[], argTypes := #[] }, type := 45, pos := "law.go:28", after := #[], guard := none }) rfl (fun K hK => ?_) (AllReadyH.cons (o := { dst := some 12, op := Op.alloc 45, type := 0, pos := "law.go:28", after := #[], guard := none }) rfl (fun K hK => ?_) AllReadyH.nil)
        · skip
          go_simp
          refine (KN.out V0).mono ?_
          rintro e V1 ⟨rfl, jx⟩
          replace nc := nc.trans (jx.mono nc.size)
          clear jx
          clear hHeld
          refine hK.out _ _ (CS.out _ nc) (fun hHeld => ?_)
          clear hK K
          (try simp only [Act.put, List.setIfInBounds_toArray, List.set_cons_zero, List.set_cons_succ])
          refine wpAnyH_ready (rs := [2, 7]) (by kernel_rfl) (by simp) ?_
          refine AllReadyH.cons (o := { dst := some 66, op := Op.call { callee := Callee.value (Operand.func 27), args := #[Operand.tmp 64, Operand.tmp 65], argTypes := #[45, 29] }, type := 46, pos := "law.go:28", after := #[{ on := 0, ground := Ground.data }, { on := 1, ground := Ground.data }, { on := 0, ground := Ground.chain }], guard := none }) rfl (fun K hK => ?_) (AllReadyH.cons (o := { dst := some 12, op := Op.alloc 45, type := 0, pos := "law.go:28", after := #[], guard := none }) rfl (fun K hK => ?_) AllReadyH.nil)
          · skip
            go_simp
            refine (K5.out Sbs cbs V1 ((rbs.below nc).more nc.size)).mono ?_
            rintro e V2 ⟨rfl, jx⟩
            replace nc := nc.trans (jx.mono nc.size)
            clear jx
            clear hHeld
            refine hK.out _ _ (CS.out _ nc) (fun hHeld => ?_)
            clear hK K
            (try dsimp only)
            refine wpAnyH_take (i := 3) (oi := { dst := some 63, op := Op.move (Operand.tmp 66), type := 46, pos := "law.go:28", after := #[{ on := 2, ground := Ground.data }], guard := none }) (v := ?_) rfl (by kernel_rfl) (by kernel_rfl) (by kernel_rfl) (fun _ _ _ h => h) (Or.inl ⟨by rfl, ?_⟩) (by assumption) ?_
            rotate_left
            · intro w hSw
              (try dsimp only at hSw)
              first | (go_simp; done) | (go_simp; with_reducible rfl)
            (try simp only [Act.put, List.setIfInBounds_toArray, List.set_cons_zero, List.set_cons_succ])
            refine wpAnyH_take (i := 4) (oi := { dst := some 67, op := Op.extract (Operand.tmp 63) 0, type := 45, pos := "law.go:28", after := #[{ on := 3, ground := Ground.data }], guard := none }) (v := ?_) rfl (by kernel_rfl) (by kernel_rfl) (by kernel_rfl) (fun _ _ _ h => h) (Or.inl ⟨by rfl, ?_⟩) (by assumption) ?_
            rotate_left
            · intro w hSw
              (try dsimp only at hSw)
              first | (go_simp; done) | (go_simp; with_reducible rfl)
            (try simp only [Act.put, List.setIfInBounds_toArray, List.set_cons_zero, List.set_cons_succ])
            refine wpAnyH_take (i := 5) (oi := { dst := some 68, op := Op.extract (Operand.tmp 63) 1, type := 4, pos := "law.go:28", after := #[{ on := 3, ground := Ground.data }, { on := 8, ground := Ground.gcOnly Departure.lateStores }], guard := none }) (v := ?_) rfl (by kernel_rfl) (by kernel_rfl) (by kernel_rfl) (fun _ _ _ h => h) (Or.inl ⟨by rfl, ?_⟩) (by assumption) ?_
            rotate_left
            · intro w hSw
              (try dsimp only at hSw)
              first | (go_simp; done) | (go_simp; with_reducible rfl)
            (try simp only [Act.put, List.setIfInBounds_toArray, List.set_cons_zero, List.set_cons_succ])
            refine wpAnyH_take (i := 6) (oi := { dst := some 69, op := Op.extract (Operand.tmp 63) 2, type := 33, pos := "law.go:28", after := #[{ on := 3, ground := Ground.data }, { on := 9, ground := Ground.gcOnly Departure.lateStores }], guard := none }) (v := ?_) rfl (by kernel_rfl) (by kernel_rfl) (by kernel_rfl) (fun _ _ _ h => h) (Or.inl ⟨by rfl, ?_⟩) (by assumption) ?_
            rotate_left
            · intro w hSw
              (try dsimp only at hSw)
              first | (go_simp; done) | (go_simp; with_reducible rfl)
            (try simp only [Act.put, List.setIfInBounds_toArray, List.set_cons_zero, List.set_cons_succ])
            refine wpAnyH_ready (rs := [7]) (by kernel_rfl) (by simp) ?_
            refine AllReadyH.cons (o := { dst := some 12, op := Op.alloc 45, type := 0, pos := "law.go:28", after := #[], guard := none }) rfl (fun K hK => ?_) AllReadyH.nil
            go_simp
            have hA := heap_alloc_new V2 (.cells (cliL false zeroT).toArray 45)
            have hAb := nc.size
            replace nc := nc.alloc nc.size (.cells (cliL false zeroT).toArray 45)
            clear hHeld
            refine hK.out _ _ (CS.out _ nc) (fun hHeld => ?_)
            clear hK K
            (try simp only [Act.put, List.setIfInBounds_toArray, List.set_cons_zero, List.set_cons_succ])
            generalize V2.alloc (.cells (cliL false zeroT).toArray 45) = V3 at *
            generalize V2.heap.size = bA at *
            have s9 := st_cli hA true aM
            have nc9 := below_setCells bA hAb (cliL true aM) 0 _ _ nc
            have HA9 := Lib.hid (cb_full hA true aM)
            refine wpAnyH_ready (rs := [8]) (by kernel_rfl) (by simp) ?_
            refine AllReadyH.cons (o := { dst := none, op := Op.store 45 (Operand.tmp 12) (Operand.tmp 67), type := 0, pos := "law.go:28", after := #[{ on := 7, ground := Ground.data }, { on := 4, ground := Ground.data }, { on := 2, ground := Ground.chain }, { on := 0, ground := Ground.phase }, { on := 1, ground := Ground.phase }, { on := 2, ground := Ground.phase }, { on := 3, ground := Ground.phase }, { on := 4, ground := Ground.phase }, { on := 5, ground := Ground.textOnly Departure.lateStores }, { on := 6, ground := Ground.textOnly Departure.lateStores }, { on := 7, ground := Ground.phase }], guard := none }) rfl (fun K hK => ?_) AllReadyH.nil
            go_simp
            clear hHeld
            refine hK.out _ _ (CS.out _ nc9) (fun hHeld => ?_)
            clear hK K
            (try simp only [Act.put, List.setIfInBounds_toArray, List.set_cons_zero, List.set_cons_succ])
            refine wpAnyH_take (i := 9) (oi := { dst := some 13, op := Op.assign (Operand.tmp 68), type := 4, pos := "law.go:28", after := #[{ on := 5, ground := Ground.data }, { on := 8, ground := Ground.chain }, { on := 0, ground := Ground.phase }, { on := 1, ground := Ground.phase }, { on := 2, ground := Ground.phase }, { on := 3, ground := Ground.phase }, { on := 4, ground := Ground.phase }, { on := 5, ground := Ground.phase }, { on := 6, ground := Ground.textOnly Departure.lateStores }, { on := 7, ground := Ground.phase }, { on := 8, ground := Ground.phase }], guard := none }) (v := ?_) rfl (by kernel_rfl) (by kernel_rfl) (by kernel_rfl) (fun _ _ _ h => h) (Or.inl ⟨by rfl, ?_⟩) (by assumption) ?_
            rotate_left
            · intro w hSw
              (try dsimp only at hSw)
              first | (go_simp; done) | (go_simp; with_reducible rfl)
            (try simp only [Act.put, List.setIfInBounds_toArray, List.set_cons_zero, List.set_cons_succ])
            refine wpAnyH_take (i := 10) (oi := { dst := some 14, op := Op.assign (Operand.tmp 69), type := 33, pos := "law.go:28", after := #[{ on := 6, ground := Ground.data }, { on := 9, ground := Ground.chain }, { on := 0, ground := Ground.phase }, { on := 1, ground := Ground.phase }, { on := 2, ground := Ground.phase }, { on := 3, ground := Ground.phase }, { on := 4, ground := Ground.phase }, { on := 5, ground := Ground.phase }, { on := 6, ground := Ground.phase }, { on := 7, ground := Ground.phase }, { on := 8, ground := Ground.phase }, { on := 9, ground := Ground.phase }], guard := none }) (v := ?_) rfl (by kernel_rfl) (by kernel_rfl) (by kernel_rfl) (fun _ _ _ h => h) (Or.inl ⟨by rfl, ?_⟩) (by assumption) ?_
            rotate_left
            · intro w hSw
              (try dsimp only at hSw)
              first | (go_simp; done) | (go_simp; with_reducible rfl)
            (try simp only [Act.put, List.setIfInBounds_toArray, List.set_cons_zero, List.set_cons_succ])
            refine wpAnyH_done (by kernel_rfl) ?_ _
            have HN9 := Lib.hid nc9
            clear nc9 nc hA s9
            go_wp2_with fail
            go_meet
            exact ⟨_, rfl, rfl, rfl, HA9.out, HN9.out⟩
          · skip
            go_simp
            have hA := heap_alloc_new V1 (.cells (cliL false zeroT).toArray 45)
            have hAb := nc.size
            replace nc := nc.alloc nc.size (.cells (cliL false zeroT).toArray 45)
            clear hHeld
            refine hK.out _ _ (CS.out _ nc) (fun hHeld => ?_)
            clear hK K
            (try simp only [Act.put, List.setIfInBounds_toArray, List.set_cons_zero, List.set_cons_succ])
            generalize V1.alloc (.cells (cliL false zeroT).toArray 45) = V4 at *
            generalize V1.heap.size = bA at *
            refine wpAnyH_ready (rs := [2]) (by kernel_rfl) (by simp) ?_
            refine AllReadyH.cons (o := { dst := some 66, op := Op.call { callee := Callee.value (Operand.func 27), args := #[Operand.tmp 64, Operand.tmp 65], argTypes := #[45, 29] }, type := 46, pos := "law.go:28", after := #[{ on := 0, ground := Ground.data }, { on := 1, ground := Ground.data }, { on := 0, ground := Ground.chain }], guard := none }) rfl (fun K hK => ?_) AllReadyH.nil
            go_simp
            refine (K5.out Sbs cbs V4 ((rbs.below nc).more nc.size)).mono ?_
            rintro e V5 ⟨rfl, jx⟩
            replace hA := bb hA jx
            replace nc := nc.trans (jx.mono nc.size)
            clear jx
            clear hHeld
            refine hK.out _ _ (CS.out _ nc) (fun hHeld => ?_)
            clear hK K
            (try dsimp only)
            refine wpAnyH_take (i := 3) (oi := { dst := some 63, op := Op.move (Operand.tmp 66), type := 46, pos := "law.go:28", after := #[{ on := 2, ground := Ground.data }], guard := none }) (v := ?_) rfl (by kernel_rfl) (by kernel_rfl) (by kernel_rfl) (fun _ _ _ h => h) (Or.inl ⟨by rfl, ?_⟩) (by assumption) ?_
            rotate_left
            · intro w hSw
              (try dsimp only at hSw)
              first | (go_simp; done) | (go_simp; with_reducible rfl)
            (try simp only [Act.put, List.setIfInBounds_toArray, List.set_cons_zero, List.set_cons_succ])
            refine wpAnyH_take (i := 4) (oi := { dst := some 67, op := Op.extract (Operand.tmp 63) 0, type := 45, pos := "law.go:28", after := #[{ on := 3, ground := Ground.data }], guard := none }) (v := ?_) rfl (by kernel_rfl) (by kernel_rfl) (by kernel_rfl) (fun _ _ _ h => h) (Or.inl ⟨by rfl, ?_⟩) (by assumption) ?_
            rotate_left
            · intro w hSw
              (try dsimp only at hSw)
              first | (go_simp; done) | (go_simp; with_reducible rfl)
            (try simp only [Act.put, List.setIfInBounds_toArray, List.set_cons_zero, List.set_cons_succ])
            refine wpAnyH_take (i := 5) (oi := { dst := some 68, op := Op.extract (Operand.tmp 63) 1, type := 4, pos := "law.go:28", after := #[{ on := 3, ground := Ground.data }, { on := 8, ground := Ground.gcOnly Departure.lateStores }], guard := none }) (v := ?_) rfl (by kernel_rfl) (by kernel_rfl) (by kernel_rfl) (fun _ _ _ h => h) (Or.inl ⟨by rfl, ?_⟩) (by assumption) ?_
            rotate_left
            · intro w hSw
              (try dsimp only at hSw)
              first | (go_simp; done) | (go_simp; with_reducible rfl)
            (try simp only [Act.put, List.setIfInBounds_toArray, List.set_cons_zero, List.set_cons_succ])
            refine wpAnyH_take (i := 6) (oi := { dst := some 69, op := Op.extract (Operand.tmp 63) 2, type := 33, pos := "law.go:28", after := #[{ on := 3, ground := Ground.data }, { on := 9, ground := Ground.gcOnly Departure.lateStores }], guard := none }) (v := ?_) rfl (by kernel_rfl) (by kernel_rfl) (by kernel_rfl) (fun _ _ _ h => h) (Or.inl ⟨by rfl, ?_⟩) (by assumption) ?_
            rotate_left
            · intro w hSw
              (try dsimp only at hSw)
              first | (go_simp; done) | (go_simp; with_reducible rfl)
            (try simp only [Act.put, List.setIfInBounds_toArray, List.set_cons_zero, List.set_cons_succ])
            have s9 := st_cli hA true aM
            have nc9 := below_setCells bA hAb (cliL true aM) 0 _ _ nc
            have HA9 := Lib.hid (cb_full hA true aM)
            refine wpAnyH_ready (rs := [8]) (by kernel_rfl) (by simp) ?_
            refine AllReadyH.cons (o := { dst := none, op := Op.store 45 (Operand.tmp 12) (Operand.tmp 67), type := 0, pos := "law.go:28", after := #[{ on := 7, ground := Ground.data }, { on := 4, ground := Ground.data }, { on := 2, ground := Ground.chain }, { on := 0, ground := Ground.phase }, { on := 1, ground := Ground.phase }, { on := 2, ground := Ground.phase }, { on := 3, ground := Ground.phase }, { on := 4, ground := Ground.phase }, { on := 5, ground := Ground.textOnly Departure.lateStores }, { on := 6, ground := Ground.textOnly Departure.lateStores }, { on := 7, ground := Ground.phase }], guard := none }) rfl (fun K hK => ?_) AllReadyH.nil
            go_simp
            clear hHeld
            refine hK.out _ _ (CS.out _ nc9) (fun hHeld => ?_)
            clear hK K
            (try simp only [Act.put, List.setIfInBounds_toArray, List.set_cons_zero, List.set_cons_succ])
            refine wpAnyH_take (i := 9) (oi := { dst := some 13, op := Op.assign (Operand.tmp 68), type := 4, pos := "law.go:28", after := #[{ on := 5, ground := Ground.data }, { on := 8, ground := Ground.chain }, { on := 0, ground := Ground.phase }, { on := 1, ground := Ground.phase }, { on := 2, ground := Ground.phase }, { on := 3, ground := Ground.phase }, { on := 4, ground := Ground.phase }, { on := 5, ground := Ground.phase }, { on := 6, ground := Ground.textOnly Departure.lateStores }, { on := 7, ground := Ground.phase }, { on := 8, ground := Ground.phase }], guard := none }) (v := ?_) rfl (by kernel_rfl) (by kernel_rfl) (by kernel_rfl) (fun _ _ _ h => h) (Or.inl ⟨by rfl, ?_⟩) (by assumption) ?_
            rotate_left
            · intro w hSw
              (try dsimp only at hSw)
              first | (go_simp; done) | (go_simp; with_reducible rfl)
            (try simp only [Act.put, List.setIfInBounds_toArray, List.set_cons_zero, List.set_cons_succ])
            refine wpAnyH_take (i := 10) (oi := { dst := some 14, op := Op.assign (Operand.tmp 69), type := 33, pos := "law.go:28", after := #[{ on := 6, ground := Ground.data }, { on := 9, ground := Ground.chain }, { on := 0, ground := Ground.phase }, { on := 1, ground := Ground.phase }, { on := 2, ground := Ground.phase }, { on := 3, ground := Ground.phase }, { on := 4, ground := Ground.phase }, { on := 5, ground := Ground.phase }, { on := 6, ground := Ground.phase }, { on := 7, ground := Ground.phase }, { on := 8, ground := Ground.phase }, { on := 9, ground := Ground.phase }], guard := none }) (v := ?_) rfl (by kernel_rfl) (by kernel_rfl) (by kernel_rfl) (fun _ _ _ h => h) (Or.inl ⟨by rfl, ?_⟩) (by assumption) ?_
            rotate_left
            · intro w hSw
              (try dsimp only at hSw)
              first | (go_simp; done) | (go_simp; with_reducible rfl)
            (try simp only [Act.put, List.setIfInBounds_toArray, List.set_cons_zero, List.set_cons_succ])
            refine wpAnyH_done (by kernel_rfl) ?_ _
            have HN9 := Lib.hid nc9
            clear nc9 nc hA s9
            go_wp2_with fail
            go_meet
            exact ⟨_, rfl, rfl, rfl, HA9.out, HN9.out⟩
        · skip
          go_simp
          have hA := heap_alloc_new V0 (.cells (cliL false zeroT).toArray 45)
          have hAb := nc.size
          replace nc := nc.alloc nc.size (.cells (cliL false zeroT).toArray 45)
          clear hHeld
          refine hK.out _ _ (CS.out _ nc) (fun hHeld => ?_)
          clear hK K
          (try simp only [Act.put, List.setIfInBounds_toArray, List.set_cons_zero, List.set_cons_succ])
          generalize V0.alloc (.cells (cliL false zeroT).toArray 45) = V6 at *
          generalize V0.heap.size = bA at *
          refine wpAnyH_ready (rs := [0]) (by kernel_rfl) (by simp) ?_
          refine AllReadyH.cons (o := { dst := some 64, op := Op.call { callee := Callee.value (Operand.func 37), args := #[], argTypes := #[] }, type := 45, pos := "law.go:28", after := #[], guard := none }) rfl (fun K hK => ?_) AllReadyH.nil
          go_simp
          refine (KN.out V6).mono ?_
          rintro e V7 ⟨rfl, jx⟩
          replace hA := bb hA jx
          replace nc := nc.trans (jx.mono nc.size)
          clear jx
          clear hHeld
          refine hK.out _ _ (CS.out _ nc) (fun hHeld => ?_)
          clear hK K
          (try simp only [Act.put, List.setIfInBounds_toArray, List.set_cons_zero, List.set_cons_succ])
          refine wpAnyH_ready (rs := [2]) (by kernel_rfl) (by simp) ?_
          refine AllReadyH.cons (o := { dst := some 66, op := Op.call { callee := Callee.value (Operand.func 27), args := #[Operand.tmp 64, Operand.tmp 65], argTypes := #[45, 29] }, type := 46, pos := "law.go:28", after := #[{ on := 0, ground := Ground.data }, { on := 1, ground := Ground.data }, { on := 0, ground := Ground.chain }], guard := none }) rfl (fun K hK => ?_) AllReadyH.nil
          go_simp
          refine (K5.out Sbs cbs V7 ((rbs.below nc).more nc.size)).mono ?_
          rintro e V8 ⟨rfl, jx⟩
          replace hA := bb hA jx
          replace nc := nc.trans (jx.mono nc.size)
          clear jx
          clear hHeld
          refine hK.out _ _ (CS.out _ nc) (fun hHeld => ?_)
          clear hK K
          (try dsimp only)
          refine wpAnyH_take (i := 3) (oi := { dst := some 63, op := Op.move (Operand.tmp 66), type := 46, pos := "law.go:28", after := #[{ on := 2, ground := Ground.data }], guard := none }) (v := ?_) rfl (by kernel_rfl) (by kernel_rfl) (by kernel_rfl) (fun _ _ _ h => h) (Or.inl ⟨by rfl, ?_⟩) (by assumption) ?_
          rotate_left
          · intro w hSw
            (try dsimp only at hSw)
            first | (go_simp; done) | (go_simp; with_reducible rfl)
          (try simp only [Act.put, List.setIfInBounds_toArray, List.set_cons_zero, List.set_cons_succ])
          refine wpAnyH_take (i := 4) (oi := { dst := some 67, op := Op.extract (Operand.tmp 63) 0, type := 45, pos := "law.go:28", after := #[{ on := 3, ground := Ground.data }], guard := none }) (v := ?_) rfl (by kernel_rfl) (by kernel_rfl) (by kernel_rfl) (fun _ _ _ h => h) (Or.inl ⟨by rfl, ?_⟩) (by assumption) ?_
          rotate_left
          · intro w hSw
            (try dsimp only at hSw)
            first | (go_simp; done) | (go_simp; with_reducible rfl)
          (try simp only [Act.put, List.setIfInBounds_toArray, List.set_cons_zero, List.set_cons_succ])
          refine wpAnyH_take (i := 5) (oi := { dst := some 68, op := Op.extract (Operand.tmp 63) 1, type := 4, pos := "law.go:28", after := #[{ on := 3, ground := Ground.data }, { on := 8, ground := Ground.gcOnly Departure.lateStores }], guard := none }) (v := ?_) rfl (by kernel_rfl) (by kernel_rfl) (by kernel_rfl) (fun _ _ _ h => h) (Or.inl ⟨by rfl, ?_⟩) (by assumption) ?_
          rotate_left
          · intro w hSw
            (try dsimp only at hSw)
            first | (go_simp; done) | (go_simp; with_reducible rfl)
          (try simp only [Act.put, List.setIfInBounds_toArray, List.set_cons_zero, List.set_cons_succ])
          refine wpAnyH_take (i := 6) (oi := { dst := some 69, op := Op.extract (Operand.tmp 63) 2, type := 33, pos := "law.go:28", after := #[{ on := 3, ground := Ground.data }, { on := 9, ground := Ground.gcOnly Departure.lateStores }], guard := none }) (v := ?_) rfl (by kernel_rfl) (by kernel_rfl) (by kernel_rfl) (fun _ _ _ h => h) (Or.inl ⟨by rfl, ?_⟩) (by assumption) ?_
          rotate_left
          · intro w hSw
            (try dsimp only at hSw)
            first | (go_simp; done) | (go_simp; with_reducible rfl)
          (try simp only [Act.put, List.setIfInBounds_toArray, List.set_cons_zero, List.set_cons_succ])
          have s9 := st_cli hA true aM
          have nc9 := below_setCells bA hAb (cliL true aM) 0 _ _ nc
          have HA9 := Lib.hid (cb_full hA true aM)
          refine wpAnyH_ready (rs := [8]) (by kernel_rfl) (by simp) ?_
          refine AllReadyH.cons (o := { dst := none, op := Op.store 45 (Operand.tmp 12) (Operand.tmp 67), type := 0, pos := "law.go:28", after := #[{ on := 7, ground := Ground.data }, { on := 4, ground := Ground.data }, { on := 2, ground := Ground.chain }, { on := 0, ground := Ground.phase }, { on := 1, ground := Ground.phase }, { on := 2, ground := Ground.phase }, { on := 3, ground := Ground.phase }, { on := 4, ground := Ground.phase }, { on := 5, ground := Ground.textOnly Departure.lateStores }, { on := 6, ground := Ground.textOnly Departure.lateStores }, { on := 7, ground := Ground.phase }], guard := none }) rfl (fun K hK => ?_) AllReadyH.nil
          go_simp
          clear hHeld
          refine hK.out _ _ (CS.out _ nc9) (fun hHeld => ?_)
          clear hK K
          (try simp only [Act.put, List.setIfInBounds_toArray, List.set_cons_zero, List.set_cons_succ])
          refine wpAnyH_take (i := 9) (oi := { dst := some 13, op := Op.assign (Operand.tmp 68), type := 4, pos := "law.go:28", after := #[{ on := 5, ground := Ground.data }, { on := 8, ground := Ground.chain }, { on := 0, ground := Ground.phase }, { on := 1, ground := Ground.phase }, { on := 2, ground := Ground.phase }, { on := 3, ground := Ground.phase }, { on := 4, ground := Ground.phase }, { on := 5, ground := Ground.phase }, { on := 6, ground := Ground.textOnly Departure.lateStores }, { on := 7, ground := Ground.phase }, { on := 8, ground := Ground.phase }], guard := none }) (v := ?_) rfl (by kernel_rfl) (by kernel_rfl) (by kernel_rfl) (fun _ _ _ h => h) (Or.inl ⟨by rfl, ?_⟩) (by assumption) ?_
          rotate_left
          · intro w hSw
            (try dsimp only at hSw)
            first | (go_simp; done) | (go_simp; with_reducible rfl)
          (try simp only [Act.put, List.setIfInBounds_toArray, List.set_cons_zero, List.set_cons_succ])
          refine wpAnyH_take (i := 10) (oi := { dst := some 14, op := Op.assign (Operand.tmp 69), type := 33, pos := "law.go:28", after := #[{ on := 6, ground := Ground.data }, { on := 9, ground := Ground.chain }, { on := 0, ground := Ground.phase }, { on := 1, ground := Ground.phase }, { on := 2, ground := Ground.phase }, { on := 3, ground := Ground.phase }, { on := 4, ground := Ground.phase }, { on := 5, ground := Ground.phase }, { on := 6, ground := Ground.phase }, { on := 7, ground := Ground.phase }, { on := 8, ground := Ground.phase }, { on := 9, ground := Ground.phase }], guard := none }) (v := ?_) rfl (by kernel_rfl) (by kernel_rfl) (by kernel_rfl) (fun _ _ _ h => h) (Or.inl ⟨by rfl, ?_⟩) (by assumption) ?_
          rotate_left
          · intro w hSw
            (try dsimp only at hSw)
            first | (go_simp; done) | (go_simp; with_reducible rfl)
          (try simp only [Act.put, List.setIfInBounds_toArray, List.set_cons_zero, List.set_cons_succ])
          refine wpAnyH_done (by kernel_rfl) ?_ _
          have HN9 := Lib.hid nc9
          clear nc9 nc hA s9
          go_wp2_with fail
          go_meet
          exact ⟨_, rfl, rfl, rfl, HA9.out, HN9.out⟩
    obtain ⟨ba, rfl, rfl, rfl, hba, nc⟩ := hcut
    generalize wc = W8 at *
    replace bT := bb bT nc
    replace bU := bb bU nc
    replace hbs := bb hbs nc
    replace rbs := (rbs.below nc).more nc.size
    replace hbd := bb hbd nc
    replace rbd := (rbd.below nc).more nc.size
    replace hbg := bb hbg nc
    replace rbg := (rbg.below nc).more nc.size
    replace hbx := bb hbx nc
    replace LL := LL.trans (nc.mono LL.size)
    clear nc
    as_aux_lemma =>
      go_upto_region 9 with fail
      go_cut [15, 16, 17] from 31 (fun p q r wx => ∃ b, p = .pointer (some ⟨b, 0, none⟩) ∧ q = .bool true ∧ r = .int .i64 0 ∧ CB b true bM wx ∧ Below W8.heap.size W8 wx)
      case first =>
        as_aux_lemma =>
          have l0 := ld_cli hba
          obtain ⟨q0, q1, q2⟩ := sh_cells _ _ _ _ _ hbd
          go_wp2_with fail
          refine (K6.out Sbd cbd W8 rbd).mono ?_
          rintro e w9 ⟨rfl, m1⟩
          have hd : CB w9.heap.size false zeroT (w9.alloc (.cells (cliL false zeroT).toArray 45)) := heap_alloc_new w9 _
          have s9 := st_cli hd true bM
          obtain ⟨k1, k2⟩ := boxC_new w9 true bM
          have HB9 := Lib.hid (And.intro k1 (m1.trans (k2.mono m1.size)))
          clear hd m1 k1 k2
          go_wp2_with fail
          go_meet
          exact ⟨_, rfl, rfl, rfl, HB9.out.1, HB9.out.2⟩
      obtain ⟨bb1, rfl, rfl, rfl, hbb1, nc⟩ := hcut
      generalize wc = W9 at *
      replace bT := bb bT nc
      replace bU := bb bU nc
      replace hbs := bb hbs nc
      replace rbs := (rbs.below nc).more nc.size
      replace hbd := bb hbd nc
      replace rbd := (rbd.below nc).more nc.size
      replace hbg := bb hbg nc
      replace rbg := (rbg.below nc).more nc.size
      replace hbx := bb hbx nc
      replace hba := bb hba nc
      replace LL := LL.trans (nc.mono LL.size)
      clear nc
      go_upto_region 10 with fail
      go_cut [18, 19, 20] from 31 (fun p q r wx => ∃ b, p = .pointer (some ⟨b, 0, none⟩) ∧ q = .bool false ∧ r = .int .i64 0 ∧ CB b true bM wx ∧ Below W9.heap.size W9 wx)
      case first =>
        as_aux_lemma =>
          have l0 := ld_cli hbb1
          obtain ⟨q0, q1, q2⟩ := sh_cells _ _ _ _ _ hbs
          go_wp2_with fail
          refine (K7.out Sbs cbs W9 rbs).mono ?_
          rintro e w9 ⟨rfl, m1⟩
          have hd : CB w9.heap.size false zeroT (w9.alloc (.cells (cliL false zeroT).toArray 45)) := heap_alloc_new w9 _
          have s9 := st_cli hd true bM
          obtain ⟨k1, k2⟩ := boxC_new w9 true bM
          have HB9 := Lib.hid (And.intro k1 (m1.trans (k2.mono m1.size)))
          clear hd m1 k1 k2
          go_wp2_with fail
          go_meet
          exact ⟨_, rfl, rfl, rfl, HB9.out.1, HB9.out.2⟩
      obtain ⟨bc, rfl, rfl, rfl, hbc, nc⟩ := hcut
      generalize wc = W10 at *
      replace bT := bb bT nc
      replace bU := bb bU nc
      replace hbs := bb hbs nc
      replace rbs := (rbs.below nc).more nc.size
      replace hbd := bb hbd nc
      replace rbd := (rbd.below nc).more nc.size
      replace hbg := bb hbg nc
      replace rbg := (rbg.below nc).more nc.size
      replace hbx := bb hbx nc
      replace hba := bb hba nc
      replace hbb1 := bb hbb1 nc
      replace LL := LL.trans (nc.mono LL.size)
      clear nc
      go_upto_region 11 with fail
      go_cut [21, 22, 23] from 31 (fun p q r wx => ∃ b, p = .pointer (some ⟨b, 0, none⟩) ∧ q = .bool false ∧ r = .int .i64 120 ∧ CB b true bM wx ∧ Below W10.heap.size W10 wx)
      case first =>
        as_aux_lemma =>
          have l0 := ld_cli hbb1
          obtain ⟨q0, q1, q2⟩ := sh_cells _ _ _ _ _ hbg
          go_wp2_with fail
          refine (K8.out Sbg cbg W10 rbg).mono ?_
          rintro e w9 ⟨rfl, m1⟩
          have hd : CB w9.heap.size false zeroT (w9.alloc (.cells (cliL false zeroT).toArray 45)) := heap_alloc_new w9 _
          have s9 := st_cli hd true bM
          obtain ⟨k1, k2⟩ := boxC_new w9 true bM
          have HB9 := Lib.hid (And.intro k1 (m1.trans (k2.mono m1.size)))
          clear hd m1 k1 k2
          go_wp2_with fail
          go_meet
          exact ⟨_, rfl, rfl, rfl, HB9.out.1, HB9.out.2⟩
      obtain ⟨be, rfl, rfl, rfl, hbe, nc⟩ := hcut
      generalize wc = W11 at *
      replace bT := bb bT nc
      replace bU := bb bU nc
      replace hbs := bb hbs nc
      replace rbs := (rbs.below nc).more nc.size
      replace hbd := bb hbd nc
      replace rbd := (rbd.below nc).more nc.size
      replace hbg := bb hbg nc
      replace rbg := (rbg.below nc).more nc.size
      replace hbx := bb hbx nc
      replace hba := bb hba nc
      replace hbb1 := bb hbb1 nc
      replace hbc := bb hbc nc
      replace LL := LL.trans (nc.mono LL.size)
      clear nc
      as_aux_lemma =>
        go_upto_region 12 with fail
        go_cut [24, 25, 26] from 31 (fun p q r wx => ∃ b, p = .pointer (some ⟨b, 0, none⟩) ∧ q = .bool false ∧ r = .int .i64 61 ∧ CB b true bM wx ∧ Below W11.heap.size W11 wx)
        case first =>
          as_aux_lemma =>
            have l0 := ld_cli hbb1
            go_wp2_with fail
            refine (K9.out W11).mono ?_
            rintro e w9 ⟨rfl, m1⟩
            have hd : CB w9.heap.size false zeroT (w9.alloc (.cells (cliL false zeroT).toArray 45)) := heap_alloc_new w9 _
            have s9 := st_cli hd true bM
            obtain ⟨k1, k2⟩ := boxC_new w9 true bM
            have HB9 := Lib.hid (And.intro k1 (m1.trans (k2.mono m1.size)))
            clear hd m1 k1 k2
            go_wp2_with fail
            go_meet
            exact ⟨_, rfl, rfl, rfl, HB9.out.1, HB9.out.2⟩
        obtain ⟨bf, rfl, rfl, rfl, hbf, nc⟩ := hcut
        generalize wc = W12 at *
        replace bT := bb bT nc
        replace bU := bb bU nc
        replace hbs := bb hbs nc
        replace rbs := (rbs.below nc).more nc.size
        replace hbd := bb hbd nc
        replace rbd := (rbd.below nc).more nc.size
        replace hbg := bb hbg nc
        replace rbg := (rbg.below nc).more nc.size
        replace hbx := bb hbx nc
        replace hba := bb hba nc
        replace hbb1 := bb hbb1 nc
        replace hbc := bb hbc nc
        replace hbe := bb hbe nc
        replace LL := LL.trans (nc.mono LL.size)
        clear nc
        go_upto_region 13 with fail
        go_cut [27, 28] from 31 (fun p q wx => ∃ b, p = .pointer (some ⟨b, 0, none⟩) ∧ q = .bool true ∧ wx.heap[b]? = some (.cells #[.int .i64 0, .int .i64 1, .int .i64 5, .int .i64 0] 23 (0, 0)) ∧ Below W12.heap.size W12 wx)
        case first =>
          as_aux_lemma =>
            have nc := Below.refl W12.heap.size W12
            have l0 := ld_cli hbb1
            go_wp2_with fail
            refine (K10.out W12).mono ?_
            rintro e w9 ⟨rfl, m9⟩
            replace nc := nc.trans (m9.mono nc.size)
            have hd := heap_alloc_new w9 (.cells #[.int .i64 0, .int .i64 0, .int .i64 0, .int .i64 0] 23)
            obtain ⟨z0, z1, z2, z3⟩ := ent_cells _ _ _ _ hd
            have f0 := ent_frozen hd 0
            have f1 := ent_frozen hd 1
            have f2 := ent_frozen hd 2
            have f3 := ent_frozen hd 3
            have HB9 := Lib.hid (And.intro (heap_alloc_new w9 (.cells #[.int .i64 0, .int .i64 1, .int .i64 5, .int .i64 0] 23)) (nc.alloc nc.size (.cells #[.int .i64 0, .int .i64 1, .int .i64 5, .int .i64 0] 23)))
            clear hd m9 nc
            go_wp2_with fail
            go_meet
            exact ⟨_, rfl, rfl, HB9.out.1, HB9.out.2⟩
        obtain ⟨br, rfl, rfl, hbr, nc⟩ := hcut
        generalize wc = W13 at *
        replace bT := bb bT nc
        replace bU := bb bU nc
        replace hbs := bb hbs nc
        replace rbs := (rbs.below nc).more nc.size
        replace hbd := bb hbd nc
        replace rbd := (rbd.below nc).more nc.size
        replace hbg := bb hbg nc
        replace rbg := (rbg.below nc).more nc.size
        replace hbx := bb hbx nc
        replace hba := bb hba nc
        replace hbb1 := bb hbb1 nc
        replace hbc := bb hbc nc
        replace hbe := bb hbe nc
        replace hbf := bb hbf nc
        replace LL := LL.trans (nc.mono LL.size)
        clear nc
        go_upto_region 14 with fail
        go_cut [29, 30] from 31 (fun p q wx => ∃ b, p = .pointer (some ⟨b, 0, none⟩) ∧ q = .bool false ∧ wx.heap[b]? = some (.cells #[.int .i64 0, .int .i64 0, .int .i64 0, .int .i64 0] 23 (0, 0)) ∧ Below W13.heap.size W13 wx)
        case first =>
          as_aux_lemma =>
            have nc := Below.refl W13.heap.size W13
            go_wp2_with fail
            refine (KN.out W13).mono ?_
            rintro e w7 ⟨rfl, m7⟩
            replace nc := nc.trans (m7.mono nc.size)
            clear m7
            go_wp2_with fail
            refine (K11.out w7).mono ?_
            rintro e w9 ⟨rfl, m9⟩
            replace nc := nc.trans (m9.mono nc.size)
            have hd := heap_alloc_new w9 (.cells #[.int .i64 0, .int .i64 0, .int .i64 0, .int .i64 0] 23)
            obtain ⟨z0, z1, z2, z3⟩ := ent_cells _ _ _ _ hd
            have f0 := ent_frozen hd 0
            have f1 := ent_frozen hd 1
            have f2 := ent_frozen hd 2
            have f3 := ent_frozen hd 3
            have HB9 := Lib.hid (And.intro (heap_alloc_new w9 (.cells #[.int .i64 0, .int .i64 0, .int .i64 0, .int .i64 0] 23)) (nc.alloc nc.size (.cells #[.int .i64 0, .int .i64 0, .int .i64 0, .int .i64 0] 23)))
            clear hd m9 nc
            go_wp2_with fail
            go_meet
            exact ⟨_, rfl, rfl, HB9.out.1, HB9.out.2⟩
        obtain ⟨bn, rfl, rfl, hbn, nc⟩ := hcut
        generalize wc = W14 at *
        replace bT := bb bT nc
        replace bU := bb bU nc
        replace hbs := bb hbs nc
        replace rbs := (rbs.below nc).more nc.size
        replace hbd := bb hbd nc
        replace rbd := (rbd.below nc).more nc.size
        replace hbg := bb hbg nc
        replace rbg := (rbg.below nc).more nc.size
        replace hbx := bb hbx nc
        replace hba := bb hba nc
        replace hbb1 := bb hbb1 nc
        replace hbc := bb hbc nc
        replace hbe := bb hbe nc
        replace hbf := bb hbf nc
        replace hbr := bb hbr nc
        replace LL := LL.trans (nc.mono LL.size)
        clear nc
        clear K1 K2 K3 K4 K5 K6 K7 K8 K9 K10 K11 A3 A5 A2 A7 A8 rbs rbd rbg hbs hbd hbg hbx hbf hbn
        have hrow := rng_row bU 2 (by omega)
        rw [HE.out.1] at hrow
        have HF := Lib.hid (show ∀ W, Below W14.heap.size W14 W → (CB ba true aM W ∧ CB bb1 true bM W ∧ CB bc true bM W ∧ CB be true bM W ∧ NB mt 26 65 tM W) ∧ (W.cell? ⟨br, 0, none⟩ = some (.int .i64 0) ∧ W.cell? ⟨br, 1, none⟩ = some (.int .i64 1) ∧ W.cell? ⟨br, 2, none⟩ = some (.int .i64 5) ∧ W.cell? ⟨br, 3, none⟩ = some (.int .i64 0)) ∧ (W.cell? ⟨mu, 9, none⟩ = some (.int .i64 0) ∧ W.cell? ⟨mu, 10, none⟩ = some (.int .i64 1) ∧ W.cell? ⟨mu, 11, none⟩ = some (.int .i64 5) ∧ W.cell? ⟨mu, 12, none⟩ = some (.int .i64 0)) from fun W m =>
          ⟨⟨bb hba m, bb hbb1 m, bb hbc m, bb hbe m, bb bT m⟩, ent_cells _ _ _ _ (bb hbr m), ent_of_range _ _ _ _ (show W.rangeAt mu (1 + 2 * 4) (entC (0, 1, 5, 0)) from HE.out.1 ▸ rng_row (bb bU m) 2 (by omega))⟩)
        have HLL := Lib.hid LL
        clear hrow hba hbb1 hbc hbe hbr bT bU LL HE HM HMU HMT
        have hEq : ∀ W, (Op.equalIn 10000 45 (cliV true bM) (cliV true bM)).run Try.prog W = .ok true W := fun W => by
          have h := run_eqC true bM true bM W
          rwa [eqC_refl] at h
        have nc := Below.refl W14.heap.size W14
        have la := ld_cli (HF.out _ nc).1.1
        as_aux_lemma =>
          go_upto_region 15 with fail
          go_wp2_with fail
          refine (K12.out _).mono ?_
          rintro e x1 ⟨rfl, m1⟩
          replace nc := nc.trans (m1.mono nc.size)
          clear la m1
          have lb := ld_cli (HF.out _ nc).1.2.1
          go_wp2_with fail
          refine (K13.out _).mono ?_
          rintro e x2 ⟨rfl, m1⟩
          replace nc := nc.trans (m1.mono nc.size)
          clear lb m1
          have lb := ld_cli (HF.out _ nc).1.2.1
          have lc := ld_cli (HF.out _ nc).1.2.2.1
          have le := ld_cli (HF.out _ nc).1.2.2.2.1
          obtain ⟨y0, y1, y2, y3⟩ := (HF.out _ nc).2.1
          obtain ⟨z0, z1, z2, z3⟩ := (HF.out _ nc).2.2
          go_wp2_with fail
          refine (KN.out _).mono ?_
          rintro e x3 ⟨rfl, m1⟩
          replace nc := nc.trans (m1.mono nc.size)
          clear lb lc le y0 y1 y2 y3 z0 z1 z2 z3 m1
          go_wp2_with fail
          refine (K14.out _).mono ?_
          rintro e x4 ⟨rfl, m1⟩
          replace nc := nc.trans (m1.mono nc.size)
          clear m1
          have lb := ld_cli (HF.out _ nc).1.2.1
          go_wp2_with fail
          refine (K15.out _).mono ?_
          rintro e x5 ⟨rfl, m1⟩
          replace nc := nc.trans (m1.mono nc.size)
          clear lb m1
          have lt := ld_tab (HF.out _ nc).1.2.2.2.2
          go_wp2_with fail
          refine (K16.out _).mono ?_
          rintro e x6 ⟨rfl, m1⟩
          replace nc := nc.trans (m1.mono nc.size)
          clear lt m1
          have HX := Lib.hid (HLL.out.trans (nc.mono HLL.out.size))
          clear nc
          go_wp2
          go_ret
          exact ⟨rfl, HX.out⟩
end Go.Proofs.Ythgoopdekllanaa
