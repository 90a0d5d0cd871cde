/- ClFK: A sheet taken by a client: the document's Take. A sheet's bytes taken by a client: the document's Bytes. -/
import Derived.Test.YthgoopdekllanaaClE
import Derived.Test.YthgoopdekllanaaShC
import Derived.Test.YthgoopdekllanaaClG
import Derived.Test.YthgoopdekllanaaSrP

/- A sheet taken by a client: the document's Take. -/
namespace Go.Proofs.Ythgoopdekllanaa
open Go.RowKit Go.Shelf
open SumM

attribute [local go_sem] Oper.semAt_some guard_undef
attribute [local go_sem ↓] nm_ldT nm_ldA nm_stT nm_ldC nm_stC nm_buT nm_buC
attribute [local go_sem ↓] zero_tab zero_cli
attribute [local go_sem] buS_cli

theorem gap_eq {h : Bool} {T : Nat → Int} {ba tv : Int} {rs : List SR} (hg : rgC h T = true) (hs : shOk ba tv rs = true) : decide (hasC h T < ba) = (decide (0 ≤ ba) && (!h || decide (T 0 < ba))) := by
  unfold shOk at hs
  simp only [Bool.and_eq_true, decide_eq_true_eq] at hs
  unfold hasC
  refine Bool.iffEq ?_
  cases h
  · simp
    omega
  · have := (rgT_iff.1 (show rgT T = true from hg)).1
    simp
    omega

/-- While the rows are laid over, one by one. -/
structure TkI (X : Nat → Int) (ba tv : Int) (sa : Option Addr) (sn sc : Nat) (w : World) (m : Nat) (rs : List SR) (W : World) : Prop where
  lo : Below w.heap.size w W
  tb : NB m 26 65 (ly X rs) W
  sb : W.heap[w.heap.size + 1]? = some (.cells #[.int .i64 ba, .int .i64 tv, .slice sa sn sc] 29 (0, 0))
  ret : CB (w.heap.size + 2) false zeroT W
theorem ly_step {X : Nat → Int} {rs : List SR} {k : Nat} (h : k < rs.length) : ly X (rs.take (k + 1)) = if nwR (ly X (rs.take k)) (rs[k]?.getD sr0) = true then setR (ly X (rs.take k)) (rs[k]?.getD sr0).1.toNat (rs[k]?.getD sr0).2 else ly X (rs.take k) := by
  rw [List.take_add_one, List.getElem?_eq_getElem h]
  exact ly_snoc _ _ _

set_option maxRecDepth 100000 in
set_option maxHeartbeats 8000000 in
theorem r12Take_t (T : Nat → Int) (ba tv : Int) (sa : Option Addr) (sn sc : Nat) (rs : List SR) (hl : rs.length = sn) (hs : sn ≤ 4000000) (w : World) (hsr : SRow5 w.heap.size w sa rs) :
    Calls Try.prog 28 #[cliV true T, .agg #[.int .i64 ba, .int .i64 tv, .slice sa sn sc]] w (CliRet (tkR true T ba tv rs) w) := by
  have bC := blkN (blkN (heap_alloc_new w (.cells (cliL true T).toArray 45)) (.cells #[.int .i64 ba, .int .i64 tv, .slice sa sn sc] 29)) (.cells (cliL false zeroT).toArray 45)
  have bS := blkN (newN (w.alloc (.cells (cliL true T).toArray 45)) (.cells #[.int .i64 ba, .int .i64 tv, .slice sa sn sc] 29) (w.heap.size + 1) (by simp)) (.cells (cliL false zeroT).toArray 45)
  have bR := newN ((w.alloc (.cells (cliL true T).toArray 45)).alloc (.cells #[.int .i64 ba, .int .i64 tv, .slice sa sn sc] 29)) (.cells (cliL false zeroT).toArray 45) (w.heap.size + 2) (by simp)
  have L0 := (((Below.refl w.heap.size w).alloc (Nat.le_refl _) (.cells (cliL true T).toArray 45)).alloc (by simp) (.cells #[.int .i64 ba, .int .i64 tv, .slice sa sn sc] 29)).alloc (by simp; omega) (.cells (cliL false zeroT).toArray 45)
  go_enter Try.func28, Try.ntmps28
  go_upto_region 1 with fail
  generalize ((w.alloc (.cells (cliL true T).toArray 45)).alloc (.cells #[.int .i64 ba, .int .i64 tv, .slice sa sn sc] 29)).alloc (.cells (cliL false zeroT).toArray 45) = W0 at *
  obtain ⟨g, hg⟩ : ∃ g, rgC true T = g := ⟨_, rfl⟩
  obtain ⟨g', hg'⟩ : ∃ g', shOk ba tv rs = g' := ⟨_, rfl⟩
  have HT := Lib.hid (show tkR true T ba tv rs = if (g && g') = true then (if hasC true T < ba then (true, T, false, 120) else if tv ≤ hasC true T then (true, T, false, 0) else (true, wiT true T tv rs, true, 0)) else (true, T, false, 2) by unfold tkR; rw [hg, hg'])
  have KR := Lib.hid (hg ▸ r12Right_any true T W0)
  have l0 := ld_cli bC
  go_wp2_with fail
  refine KR.out.mono ?_
  rintro e w1 ⟨rfl, m1⟩
  replace bC := bb bC m1
  replace bS := bb bS m1
  replace bR := bb bR m1
  replace L0 := L0.trans (m1.mono L0.size)
  clear l0 m1 KR
  cases g
  · skip
    have l9 := ld_cli bC
    have s9 := st_cli bR true T
    have HS := Lib.hid (cb_full bR true T)
    have HX := Lib.hid (below_setCells (w.heap.size + 2) (by omega) (cliL true T) 0 w _ L0)
    have HE := Lib.hid (show tkR true T ba tv rs = (true, T, false, 2) by exact HT.out)
    clear bC bS bR L0
    go_wp2
    refine bodyPost_ret (results_cli3 rfl _ _ (w.heap.size + 2) _ (0, 0) rfl HS.out (by simp [cliL_len])) rfl ⟨?_, HX.out⟩
    rw [HE.out]
    rfl
  obtain ⟨q0, q1, q2⟩ := sh_cells _ _ _ _ _ bS
  have KS := Lib.hid (hg' ▸ r11Right_any ba tv sa sn sc rs hl hs w1 ((hsr.below L0).more L0.size))
  go_wp2_with fail
  refine KS.out.mono ?_
  rintro e w2 ⟨rfl, m2⟩
  replace bC := bb bC m2
  replace bS := bb bS m2
  replace bR := bb bR m2
  replace L0 := L0.trans (m2.mono L0.size)
  clear q0 q1 q2 m2 KS
  cases g'
  · skip
    have l9 := ld_cli bC
    have s9 := st_cli bR true T
    have HS := Lib.hid (cb_full bR true T)
    have HX := Lib.hid (below_setCells (w.heap.size + 2) (by omega) (cliL true T) 0 w _ L0)
    have HE := Lib.hid (show tkR true T ba tv rs = (true, T, false, 2) by exact HT.out)
    clear bC bS bR L0
    go_wp2
    refine bodyPost_ret (results_cli3 rfl _ _ (w.heap.size + 2) _ (0, 0) rfl HS.out (by simp [cliL_len])) rfl ⟨?_, HX.out⟩
    rw [HE.out]
    rfl
  have hgap := gap_eq hg hg'
  have hris : rises (-1) rs = true := by
    have := hg'
    unfold shOk at this
    simp only [Bool.and_eq_true] at this
    exact this.2
  have HRI := Lib.hid (And.intro (rises_in (by omega) hris) (And.intro hl hs))
  clear hris
  replace HT := Lib.hid (show tkR true T ba tv rs = if hasC true T < ba then (true, T, false, 120) else if tv ≤ hasC true T then (true, T, false, 0) else (true, wiT true T tv rs, true, 0) from HT.out)
  obtain ⟨v, hv⟩ : ∃ v, hasC true T = v := ⟨_, rfl⟩
  have KH := Lib.hid (fun W => hv ▸ r12Has_any true T W)
  rw [hv] at HT hgap
  have HC := Lib.hid (And.intro hg (And.intro hg' hv))
  clear hg hg' hv
  obtain ⟨q0, q1, q2⟩ := sh_cells _ _ _ _ _ bS
  have hh := cb_has bC
  have hcv := cb_ver bC
  obtain ⟨p0, hp0⟩ : ∃ p, decide (0 ≤ ba) = p := ⟨_, rfl⟩
  obtain ⟨p1, hp1⟩ : ∃ p, decide (T 0 < ba) = p := ⟨_, rfl⟩
  rw [hp0, hp1] at hgap
  by_cases hb : v < ba
  · rw [decide_eq_true hb] at hgap
    obtain ⟨rfl, rfl⟩ : p0 = true ∧ p1 = true := by cases p0 <;> cases p1 <;> simp at hgap <;> simp
    clear hgap
    have l9 := ld_cli bC
    have s9 := st_cli bR true T
    have HS := Lib.hid (cb_full bR true T)
    have HX := Lib.hid (below_setCells (w.heap.size + 2) (by omega) (cliL true T) 0 w _ L0)
    have HE := Lib.hid (show tkR true T ba tv rs = (true, T, false, 120) by rw [HT.out, if_pos hb])
    clear bC bS bR L0
    go_wp2
    refine bodyPost_ret (results_cli3 rfl _ _ (w.heap.size + 2) _ (0, 0) rfl HS.out (by simp [cliL_len])) rfl ⟨?_, HX.out⟩
    rw [HE.out]
    rfl
  replace HT := Lib.hid (show tkR true T ba tv rs = if tv ≤ v then (true, T, false, 0) else (true, wiT true T tv rs, true, 0) by rw [HT.out, if_neg hb])
  rw [decide_eq_false hb] at hgap
  clear hb
  have CB2 := Lib.hid (fun W (m : Below w2.heap.size w2 W) => And.intro (bb bC m) (And.intro (bb bS m) (And.intro (bb bR m) (L0.trans (m.mono L0.size)))))
  have CS := Lib.hid (fun W (m : Below w2.heap.size w2 W) => show (ldS 45 (.pointer (some ⟨w.heap.size, 0, none⟩))).run Try.prog W = .ok (cliV true T) W ∧ W.cell? ⟨w.heap.size + 1, 0, none⟩ = some (.int .i64 ba) ∧ W.cell? ⟨w.heap.size + 1, 1, none⟩ = some (.int .i64 tv) from
    ⟨ld_cli (bb bC m), (sh_cells _ _ _ _ _ (bb bS m)).1, (sh_cells _ _ _ _ _ (bb bS m)).2.1⟩)
  clear L0 bC bS bR
  have nc := (Below.refl w2.heap.size w2).drew
  have HSR := Lib.hid hsr
  clear hsr
  have hpp : p0 = false ∨ (p0 = true ∧ p1 = false) := by cases p0 <;> cases p1 <;> simp at hgap <;> simp
  clear hgap
  rcases hpp with rfl | ⟨rfl, rfl⟩
  all_goals
    go_upto_region 5 with fail
    clear hp0 hp1 q0 q1 q2 hh hcv
    refine wp_region_held_drew (S := fun W => (ldS 45 (.pointer (some ⟨w.heap.size, 0, none⟩))).run Try.prog W = .ok (cliV true T) W ∧ W.cell? ⟨w.heap.size + 1, 0, none⟩ = some (.int .i64 ba) ∧ W.cell? ⟨w.heap.size + 1, 1, none⟩ = some (.int .i64 tv)) (by kernel_rfl) (CS.out _ nc) (fun hHeld => ?_)
    refine wpAnyH_take (i := 0) (oi := { dst := some 36, op := Op.fieldAddr 29 (Operand.tmp 3) 1, type := 0, pos := "ref.go:45", after := #[], guard := none }) (v := ?_) rfl (by kernel_rfl) (by kernel_rfl) (by kernel_rfl) (fun _ _ _ h => h) (Or.inl ⟨by rfl, ?_⟩) (by assumption) ?_
    rotate_left
    · intro w hSw
      (try dsimp only at hSw)
      first | (go_simp; done) | (go_simp; with_reducible rfl)
    (try simp only [Act.put, List.setIfInBounds_toArray, List.set_cons_zero, List.set_cons_succ])
    refine wpAnyH_take (i := 1) (oi := { dst := some 37, op := Op.load 3 (Operand.tmp 36), type := 3, pos := "ref.go:45", after := #[{ on := 0, ground := Ground.data }], guard := none }) (v := ?_) rfl (by kernel_rfl) (by kernel_rfl) (by kernel_rfl) (fun _ _ _ h => h) (Or.inl ⟨by rfl, ?_⟩) (by assumption) ?_
    rotate_left
    · intro w hSw
      (try dsimp only at hSw)
      first | (go_simp; done) | (go_simp; with_reducible rfl)
    (try simp only [Act.put, List.setIfInBounds_toArray, List.set_cons_zero, List.set_cons_succ])
    refine wpAnyH_take (i := 2) (oi := { dst := some 38, op := Op.load 45 (Operand.tmp 2), type := 45, pos := "ref.go:45", after := #[], guard := none }) (v := ?_) rfl (by kernel_rfl) (by kernel_rfl) (by kernel_rfl) (fun _ _ _ h => h) (Or.inl ⟨by rfl, ?_⟩) (by assumption) ?_
    rotate_left
    · intro w hSw
      (try dsimp only at hSw)
      first | (go_simp; done) | (go_simp; with_reducible rfl)
    (try simp only [Act.put, List.setIfInBounds_toArray, List.set_cons_zero, List.set_cons_succ])
    refine wpAnyH_ready (rs := [3]) (by kernel_rfl) (by simp) ?_
    refine AllReadyH.cons (o := { dst := some 39, op := Op.call { callee := Callee.value (Operand.func 36), args := #[Operand.tmp 38], argTypes := #[45] }, type := 3, pos := "ref.go:45", after := #[{ on := 2, ground := Ground.data }], guard := none }) rfl (fun K hK => ?_) AllReadyH.nil
    go_simp
    refine (KH.out _).mono ?_
    rintro e wx ⟨rfl, jx⟩
    replace nc := nc.trans (jx.mono nc.size)
    clear jx
    refine hK.out _ _ (CS.out _ nc) (fun hHeld => ?_)
    clear hK K
    (try simp only [Act.put, List.setIfInBounds_toArray, List.set_cons_zero, List.set_cons_succ])
    refine wpAnyH_take (i := 4) (oi := { dst := some 40, op := Op.binOp BinOp.leq 3 (Operand.tmp 37) (Operand.tmp 39) 3, type := 4, pos := "ref.go:45", after := #[{ on := 1, ground := Ground.data }, { on := 3, ground := Ground.data }], guard := none }) (v := ?_) rfl (by kernel_rfl) (by kernel_rfl) (by kernel_rfl) (fun _ _ _ h => h) (Or.inl ⟨by rfl, ?_⟩) (by assumption) ?_
    rotate_left
    · intro w hSw
      (try dsimp only at hSw)
      first | (go_simp; done) | (go_simp; with_reducible rfl)
    (try simp only [Act.put, List.setIfInBounds_toArray, List.set_cons_zero, List.set_cons_succ])
    refine wpAnyH_done (by kernel_rfl) ?_ _
    obtain ⟨bC, bS, bR, L0⟩ := CB2.out _ nc
    clear nc CS CB2
    by_cases hb : tv ≤ v
    · rw [show decide (tv ≤ v) = true from decide_eq_true hb]
      have l9 := ld_cli bC
      have s9 := st_cli bR true T
      have HS := Lib.hid (cb_full bR true T)
      have HX := Lib.hid (below_setCells (w.heap.size + 2) (by omega) (cliL true T) 0 w _ L0)
      have HE := Lib.hid (show tkR true T ba tv rs = (true, T, false, 0) by rw [HT.out, if_pos hb])
      clear bC bS bR L0
      go_wp2
      refine bodyPost_ret (results_cli3 rfl _ _ (w.heap.size + 2) _ (0, 0) rfl HS.out (by simp [cliL_len])) rfl ⟨?_, HX.out⟩
      rw [HE.out]
      rfl
    rw [show decide (tv ≤ v) = false from decide_eq_false hb]
    replace HT := Lib.hid (show tkR true T ba tv rs = (true, upd (ly T rs) 0 tv, true, 0) by rw [HT.out, if_neg hb]; rfl)
    clear hb
    have l0 := ld_ctab bC
    have s0 := st_new wx T
    obtain ⟨bT, L1⟩ := boxT_new wx T
    have bC1 := bb bC L1
    have hh := cb_has bC1
    have bR0 := bR
    replace bS := bb bS L1
    replace bR := bb bR L1
    have hm : w.heap.size + 3 ≤ wx.heap.size := nb_lt2 bR0
    have LL := L0.trans (L1.mono L0.size)
    clear bC L0 L1 bC1 bR0
    go_upto_region 8 with fail
    clear l0 s0
    generalize (wx.alloc (.cells (numL 65 zeroT).toArray 26)).setCells wx.heap.size 0 (numL 65 T) = W1 at *
    generalize wx.heap.size = m at *
    have HI := Lib.hid (show TkI T ba tv sa sn sc w m (rs.take 0) W1 from ⟨LL, bT, bS, bR⟩)
    have HM := Lib.hid hm
    clear bT bS bR LL hm
    go_wp2
    clear hh
    go_loopw [8, 9] (fun i _ wr => ∃ k : Nat, k ≤ sn ∧ i = .int .i64 (k : Nat) ∧ TkI T ba tv sa sn sc w m (rs.take k) wr) (fun i _ _ => sn - (intOf i).toNat)
    case atStart => exact ⟨0, by omega, rfl, HI.out⟩
    case round =>
      obtain ⟨k, hk, rfl, hI⟩ := hrel
      clear HI
      by_cases hlt : k < sn
      · have hk0 : (0 : Int) ≤ (k : Int) := by omega
        have hk1 : (k : Int) < (sn : Int) := by omega
        have hkl : k < rs.length := by rw [HRI.out.2.1]; exact hlt
        have hSR := HSR.out.below hI.lo
        obtain ⟨bs, off, rfl, hbs⟩ := sr_addr hSR (by omega)
        obtain ⟨c0, c1, c2, c3, c4⟩ := sr_at hSR k hkl
        have hr := HRI.out.1 (rs[k]?.getD sr0) (by rw [List.getElem?_eq_getElem hkl]; exact List.getElem_mem hkl)
        have hst := ly_step (X := T) hkl
        obtain ⟨q0, q1, q2⟩ := sh_cells _ _ _ _ _ hI.sb
        generalize rs[k]?.getD sr0 = r at *
        obtain ⟨z, u0, u1, u2, u3⟩ := r
        obtain ⟨b, rfl⟩ : ∃ b : Nat, z = (b : Int) := ⟨z.toNat, by simp only at hr; omega⟩
        have hb16 : b < 16 := by simp only at hr; omega
        have hb1 : (b : Int) < 16 := by omega
        simp only [Int.toNat_natCast] at hst
        simp only at c0 c1 c2 c3 c4
        have q := rng_row hI.tb b hb16
        obtain ⟨t, ht⟩ : ∃ t, rowT (ly T (rs.take k)) b = t := ⟨_, rfl⟩
        rw [ht] at q
        have hnw : nwR (ly T (rs.take k)) ((b : Int), u0, u1, u2, u3) = decide (t.2.2.1 < u2) := by rw [← ht]; rfl
        rw [hnw] at hst
        obtain ⟨t0, t1, t2, t3⟩ := t
        simp only at hst
        clear ht hnw hr
        obtain ⟨x0, x1, x2, x3⟩ := ent_of_range _ _ _ _ q
        have hft := nb_frozen hI.tb
        have HI2 := Lib.hid hI
        have HST := Lib.hid hst
        clear hI q hst hSR hbs
        go_upto_region 14 with fail
        go_quiet (fail)
        obtain ⟨p, hp⟩ : ∃ p, decide (t2 < u2) = p := ⟨_, rfl⟩
        replace HST := Lib.hid (show ly T (rs.take (k + 1)) = if p = true then setR (ly T (rs.take k)) b (u0, u1, u2, u3) else ly T (rs.take k) by rw [HST.out, hp])
        rw [hp]
        clear hp
        have hI : TkI T ba tv (some ⟨bs, off, none⟩) sn sc w m (rs.take k) (wr.drewN nq) := ⟨below_tb HI2.out.lo nq, HI2.out.tb, HI2.out.sb, HI2.out.ret⟩
        have cc : ∀ a, (wr.drewN nq).cell? a = wr.cell? a := fun _ => rfl
        have ff : ∀ a, (wr.drewN nq).frozen? a = wr.frozen? a := fun _ => rfl
        rw [← cc] at c0 c1 c2 c3 c4 q0 q1 q2 x0 x1 x2 x3
        have f0 : (wr.drewN nq).frozen? ⟨m, 1 + b * 4, none⟩ = false := hft _
        have f1 : (wr.drewN nq).frozen? ⟨m, 1 + b * 4 + 1, none⟩ = false := hft _
        have f2 : (wr.drewN nq).frozen? ⟨m, 1 + b * 4 + 2, none⟩ = false := hft _
        have f3 : (wr.drewN nq).frozen? ⟨m, 1 + b * 4 + 3, none⟩ = false := hft _
        clear HI2 hft cc ff
        generalize wr.drewN nq = W2 at *
        cases p
        · have HIX := Lib.hid (show TkI T ba tv (some ⟨bs, off, none⟩) sn sc w m (rs.take (k + 1)) W2 from ⟨hI.lo, by rw [HST.out]; exact hI.tb, hI.sb, hI.ret⟩)
          clear hI c0 c1 c2 c3 c4 q0 q1 q2 x0 x1 x2 x3 f0 f1 f2 f3
          go_wp2
          go_roundw
          case rel => exact ⟨k + 1, by omega, by go_num, HIX.out⟩
          case measure => simp [intOf]; omega
        · have hm3 := HM.out
          have HIX := Lib.hid (show TkI T ba tv (some ⟨bs, off, none⟩) sn sc w m (rs.take (k + 1)) (W2.setCells m (1 + b * 4) [.int .i64 u0, .int .i64 u1, .int .i64 u2, .int .i64 u3]) from
            ⟨below_setCells m (by omega) _ _ w _ hI.lo, by rw [HST.out]; exact nb_row hI.tb b (u0, u1, u2, u3), (nb_other (by omega) _ _ _).trans hI.sb, (nb_other (by omega) _ _ _).trans hI.ret⟩)
          clear hI hm3
          go_wp2
          go_roundw
          case rel => exact ⟨k + 1, by omega, by go_num, HIX.out⟩
          case measure => simp [intOf]; omega
      · obtain rfl : k = sn := by omega
        rw [show rs.take k = rs from List.take_of_length_le (by rw [HRI.out.2.1]; exact Nat.le_refl _)] at hI
        have hm3 := HM.out
        obtain ⟨q0, q1, q2⟩ := sh_cells _ _ _ _ _ hI.sb
        have c0 := nb_cell hI.tb (o := 0) (by omega)
        have g0 := nb_frozen hI.tb 0
        have HI2 := Lib.hid hI
        have HM3 := Lib.hid hm3
        clear hI hm3
        go_upto_region 17 with fail
        have hm3 := HM3.out
        have hT6 : NB m 26 65 (upd (ly T rs) 0 tv) (wr.setCell ⟨m, 0, none⟩ (.int .i64 tv)) := nb_put HI2.out.tb 0 tv
        have hR6 : CB (w.heap.size + 2) false zeroT (wr.setCell ⟨m, 0, none⟩ (.int .i64 tv)) := (Below.heap_setCell wr ⟨m, 0, none⟩ (.int .i64 tv) (w.heap.size + 2) (by show w.heap.size + 2 ≠ m; omega)).trans HI2.out.ret
        have hB6 : Below w.heap.size w (wr.setCell ⟨m, 0, none⟩ (.int .i64 tv)) := HI2.out.lo.setCell (p := ⟨m, 0, none⟩) (by show w.heap.size ≤ m; omega) (.int .i64 tv)
        clear HI2 c0 g0 q0 q1 q2 hm3
        generalize wr.setCell ⟨m, 0, none⟩ (.int .i64 tv) = W6 at *
        have l6 := ld_tab hT6
        have s6 := st_cli hR6 true (upd (ly T rs) 0 tv)
        have HS := Lib.hid (cb_full hR6 true (upd (ly T rs) 0 tv))
        have HX := Lib.hid (below_setCells (w.heap.size + 2) (by omega) (cliL true (upd (ly T rs) 0 tv)) 0 w _ hB6)
        clear hT6 hR6 hB6
        go_wp2
        refine bodyPost_ret (results_cli3 rfl _ _ (w.heap.size + 2) _ (0, 0) rfl HS.out (by simp [cliL_len])) rfl ⟨?_, HX.out⟩
        rw [HT.out]
        rfl

set_option maxRecDepth 100000 in
set_option maxHeartbeats 8000000 in
theorem r12Take_f (T : Nat → Int) (ba tv : Int) (sa : Option Addr) (sn sc : Nat) (rs : List SR) (hl : rs.length = sn) (hs : sn ≤ 4000000) (w : World) (hsr : SRow5 w.heap.size w sa rs) :
    Calls Try.prog 28 #[cliV false T, .agg #[.int .i64 ba, .int .i64 tv, .slice sa sn sc]] w (CliRet (tkR false T ba tv rs) w) := by
  have bC := blkN (blkN (heap_alloc_new w (.cells (cliL false T).toArray 45)) (.cells #[.int .i64 ba, .int .i64 tv, .slice sa sn sc] 29)) (.cells (cliL false zeroT).toArray 45)
  have bS := blkN (newN (w.alloc (.cells (cliL false T).toArray 45)) (.cells #[.int .i64 ba, .int .i64 tv, .slice sa sn sc] 29) (w.heap.size + 1) (by simp)) (.cells (cliL false zeroT).toArray 45)
  have bR := newN ((w.alloc (.cells (cliL false T).toArray 45)).alloc (.cells #[.int .i64 ba, .int .i64 tv, .slice sa sn sc] 29)) (.cells (cliL false zeroT).toArray 45) (w.heap.size + 2) (by simp)
  have L0 := (((Below.refl w.heap.size w).alloc (Nat.le_refl _) (.cells (cliL false T).toArray 45)).alloc (by simp) (.cells #[.int .i64 ba, .int .i64 tv, .slice sa sn sc] 29)).alloc (by simp; omega) (.cells (cliL false zeroT).toArray 45)
  go_enter Try.func28, Try.ntmps28
  go_upto_region 1 with fail
  generalize ((w.alloc (.cells (cliL false T).toArray 45)).alloc (.cells #[.int .i64 ba, .int .i64 tv, .slice sa sn sc] 29)).alloc (.cells (cliL false zeroT).toArray 45) = W0 at *
  obtain ⟨g, hg⟩ : ∃ g, rgC false T = g := ⟨_, rfl⟩
  obtain ⟨g', hg'⟩ : ∃ g', shOk ba tv rs = g' := ⟨_, rfl⟩
  have HT := Lib.hid (show tkR false T ba tv rs = if (g && g') = true then (if hasC false T < ba then (false, T, false, 120) else if tv ≤ hasC false T then (false, T, false, 0) else (true, wiT false T tv rs, true, 0)) else (false, T, false, 2) by unfold tkR; rw [hg, hg'])
  have KR := Lib.hid (hg ▸ r12Right_any false T W0)
  have l0 := ld_cli bC
  go_wp2_with fail
  refine KR.out.mono ?_
  rintro e w1 ⟨rfl, m1⟩
  replace bC := bb bC m1
  replace bS := bb bS m1
  replace bR := bb bR m1
  replace L0 := L0.trans (m1.mono L0.size)
  clear l0 m1 KR
  cases g
  · skip
    have l9 := ld_cli bC
    have s9 := st_cli bR false T
    have HS := Lib.hid (cb_full bR false T)
    have HX := Lib.hid (below_setCells (w.heap.size + 2) (by omega) (cliL false T) 0 w _ L0)
    have HE := Lib.hid (show tkR false T ba tv rs = (false, T, false, 2) by exact HT.out)
    clear bC bS bR L0
    go_wp2
    refine bodyPost_ret (results_cli3 rfl _ _ (w.heap.size + 2) _ (0, 0) rfl HS.out (by simp [cliL_len])) rfl ⟨?_, HX.out⟩
    rw [HE.out]
    rfl
  obtain ⟨q0, q1, q2⟩ := sh_cells _ _ _ _ _ bS
  have KS := Lib.hid (hg' ▸ r11Right_any ba tv sa sn sc rs hl hs w1 ((hsr.below L0).more L0.size))
  go_wp2_with fail
  refine KS.out.mono ?_
  rintro e w2 ⟨rfl, m2⟩
  replace bC := bb bC m2
  replace bS := bb bS m2
  replace bR := bb bR m2
  replace L0 := L0.trans (m2.mono L0.size)
  clear q0 q1 q2 m2 KS
  cases g'
  · skip
    have l9 := ld_cli bC
    have s9 := st_cli bR false T
    have HS := Lib.hid (cb_full bR false T)
    have HX := Lib.hid (below_setCells (w.heap.size + 2) (by omega) (cliL false T) 0 w _ L0)
    have HE := Lib.hid (show tkR false T ba tv rs = (false, T, false, 2) by exact HT.out)
    clear bC bS bR L0
    go_wp2
    refine bodyPost_ret (results_cli3 rfl _ _ (w.heap.size + 2) _ (0, 0) rfl HS.out (by simp [cliL_len])) rfl ⟨?_, HX.out⟩
    rw [HE.out]
    rfl
  have hgap := gap_eq hg hg'
  have hris : rises (-1) rs = true := by
    have := hg'
    unfold shOk at this
    simp only [Bool.and_eq_true] at this
    exact this.2
  have HRI := Lib.hid (And.intro (rises_in (by omega) hris) (And.intro hl hs))
  clear hris
  replace HT := Lib.hid (show tkR false T ba tv rs = if hasC false T < ba then (false, T, false, 120) else if tv ≤ hasC false T then (false, T, false, 0) else (true, wiT false T tv rs, true, 0) from HT.out)
  obtain ⟨v, hv⟩ : ∃ v, hasC false T = v := ⟨_, rfl⟩
  have KH := Lib.hid (fun W => hv ▸ r12Has_any false T W)
  rw [hv] at HT hgap
  have HC := Lib.hid (And.intro hg (And.intro hg' hv))
  clear hg hg' hv
  obtain ⟨q0, q1, q2⟩ := sh_cells _ _ _ _ _ bS
  have hh := cb_has bC
  have hcv := cb_ver bC
  obtain ⟨p0, hp0⟩ : ∃ p, decide (0 ≤ ba) = p := ⟨_, rfl⟩
  obtain ⟨p1, hp1⟩ : ∃ p, decide (T 0 < ba) = p := ⟨_, rfl⟩
  rw [hp0, hp1] at hgap
  by_cases hb : v < ba
  · rw [decide_eq_true hb] at hgap
    obtain rfl : p0 = true := by cases p0 <;> simp at hgap <;> simp
    clear hgap hp1
    have l9 := ld_cli bC
    have s9 := st_cli bR false T
    have HS := Lib.hid (cb_full bR false T)
    have HX := Lib.hid (below_setCells (w.heap.size + 2) (by omega) (cliL false T) 0 w _ L0)
    have HE := Lib.hid (show tkR false T ba tv rs = (false, T, false, 120) by rw [HT.out, if_pos hb])
    clear bC bS bR L0
    go_wp2
    refine bodyPost_ret (results_cli3 rfl _ _ (w.heap.size + 2) _ (0, 0) rfl HS.out (by simp [cliL_len])) rfl ⟨?_, HX.out⟩
    rw [HE.out]
    rfl
  replace HT := Lib.hid (show tkR false T ba tv rs = if tv ≤ v then (false, T, false, 0) else (true, wiT false T tv rs, true, 0) by rw [HT.out, if_neg hb])
  rw [decide_eq_false hb] at hgap
  clear hb
  have CB2 := Lib.hid (fun W (m : Below w2.heap.size w2 W) => And.intro (bb bC m) (And.intro (bb bS m) (And.intro (bb bR m) (L0.trans (m.mono L0.size)))))
  have CS := Lib.hid (fun W (m : Below w2.heap.size w2 W) => show (ldS 45 (.pointer (some ⟨w.heap.size, 0, none⟩))).run Try.prog W = .ok (cliV false T) W ∧ W.cell? ⟨w.heap.size + 1, 0, none⟩ = some (.int .i64 ba) ∧ W.cell? ⟨w.heap.size + 1, 1, none⟩ = some (.int .i64 tv) from
    ⟨ld_cli (bb bC m), (sh_cells _ _ _ _ _ (bb bS m)).1, (sh_cells _ _ _ _ _ (bb bS m)).2.1⟩)
  clear L0 bC bS bR
  have nc := (Below.refl w2.heap.size w2).drew
  have HSR := Lib.hid hsr
  clear hsr
  obtain rfl : p0 = false := by cases p0 <;> simp at hgap <;> simp
  clear hgap hp1
  go_upto_region 5 with fail
  clear hp0 q0 q1 q2 hh hcv
  refine wp_region_held_drew (S := fun W => (ldS 45 (.pointer (some ⟨w.heap.size, 0, none⟩))).run Try.prog W = .ok (cliV false T) W ∧ W.cell? ⟨w.heap.size + 1, 0, none⟩ = some (.int .i64 ba) ∧ W.cell? ⟨w.heap.size + 1, 1, none⟩ = some (.int .i64 tv)) (by kernel_rfl) (CS.out _ nc) (fun hHeld => ?_)
  refine wpAnyH_take (i := 0) (oi := { dst := some 36, op := Op.fieldAddr 29 (Operand.tmp 3) 1, type := 0, pos := "ref.go:45", after := #[], guard := none }) (v := ?_) rfl (by kernel_rfl) (by kernel_rfl) (by kernel_rfl) (fun _ _ _ h => h) (Or.inl ⟨by rfl, ?_⟩) (by assumption) ?_
  rotate_left
  · intro w hSw
    (try dsimp only at hSw)
    first | (go_simp; done) | (go_simp; with_reducible rfl)
  (try simp only [Act.put, List.setIfInBounds_toArray, List.set_cons_zero, List.set_cons_succ])
  refine wpAnyH_take (i := 1) (oi := { dst := some 37, op := Op.load 3 (Operand.tmp 36), type := 3, pos := "ref.go:45", after := #[{ on := 0, ground := Ground.data }], guard := none }) (v := ?_) rfl (by kernel_rfl) (by kernel_rfl) (by kernel_rfl) (fun _ _ _ h => h) (Or.inl ⟨by rfl, ?_⟩) (by assumption) ?_
  rotate_left
  · intro w hSw
    (try dsimp only at hSw)
    first | (go_simp; done) | (go_simp; with_reducible rfl)
  (try simp only [Act.put, List.setIfInBounds_toArray, List.set_cons_zero, List.set_cons_succ])
  refine wpAnyH_take (i := 2) (oi := { dst := some 38, op := Op.load 45 (Operand.tmp 2), type := 45, pos := "ref.go:45", after := #[], guard := none }) (v := ?_) rfl (by kernel_rfl) (by kernel_rfl) (by kernel_rfl) (fun _ _ _ h => h) (Or.inl ⟨by rfl, ?_⟩) (by assumption) ?_
  rotate_left
  · intro w hSw
    (try dsimp only at hSw)
    first | (go_simp; done) | (go_simp; with_reducible rfl)
  (try simp only [Act.put, List.setIfInBounds_toArray, List.set_cons_zero, List.set_cons_succ])
  refine wpAnyH_ready (rs := [3]) (by kernel_rfl) (by simp) ?_
  refine AllReadyH.cons (o := { dst := some 39, op := Op.call { callee := Callee.value (Operand.func 36), args := #[Operand.tmp 38], argTypes := #[45] }, type := 3, pos := "ref.go:45", after := #[{ on := 2, ground := Ground.data }], guard := none }) rfl (fun K hK => ?_) AllReadyH.nil
  go_simp
  refine (KH.out _).mono ?_
  rintro e wx ⟨rfl, jx⟩
  replace nc := nc.trans (jx.mono nc.size)
  clear jx
  refine hK.out _ _ (CS.out _ nc) (fun hHeld => ?_)
  clear hK K
  (try simp only [Act.put, List.setIfInBounds_toArray, List.set_cons_zero, List.set_cons_succ])
  refine wpAnyH_take (i := 4) (oi := { dst := some 40, op := Op.binOp BinOp.leq 3 (Operand.tmp 37) (Operand.tmp 39) 3, type := 4, pos := "ref.go:45", after := #[{ on := 1, ground := Ground.data }, { on := 3, ground := Ground.data }], guard := none }) (v := ?_) rfl (by kernel_rfl) (by kernel_rfl) (by kernel_rfl) (fun _ _ _ h => h) (Or.inl ⟨by rfl, ?_⟩) (by assumption) ?_
  rotate_left
  · intro w hSw
    (try dsimp only at hSw)
    first | (go_simp; done) | (go_simp; with_reducible rfl)
  (try simp only [Act.put, List.setIfInBounds_toArray, List.set_cons_zero, List.set_cons_succ])
  refine wpAnyH_done (by kernel_rfl) ?_ _
  obtain ⟨bC, bS, bR, L0⟩ := CB2.out _ nc
  clear nc CS CB2
  by_cases hb : tv ≤ v
  · rw [show decide (tv ≤ v) = true from decide_eq_true hb]
    have l9 := ld_cli bC
    have s9 := st_cli bR false T
    have HS := Lib.hid (cb_full bR false T)
    have HX := Lib.hid (below_setCells (w.heap.size + 2) (by omega) (cliL false T) 0 w _ L0)
    have HE := Lib.hid (show tkR false T ba tv rs = (false, T, false, 0) by rw [HT.out, if_pos hb])
    clear bC bS bR L0
    go_wp2
    refine bodyPost_ret (results_cli3 rfl _ _ (w.heap.size + 2) _ (0, 0) rfl HS.out (by simp [cliL_len])) rfl ⟨?_, HX.out⟩
    rw [HE.out]
    rfl
  rw [show decide (tv ≤ v) = false from decide_eq_false hb]
  replace HT := Lib.hid (show tkR false T ba tv rs = (true, upd (ly newT rs) 0 tv, true, 0) by rw [HT.out, if_neg hb]; rfl)
  clear hb
  have l0 := ld_ctab bC
  have s0 := st_new wx T
  obtain ⟨bT, L1⟩ := boxT_new wx T
  have bC1 := bb bC L1
  have hh := cb_has bC1
  have bR0 := bR
  replace bS := bb bS L1
  replace bR := bb bR L1
  have hm : w.heap.size + 3 ≤ wx.heap.size := nb_lt2 bR0
  have LL := L0.trans (L1.mono L0.size)
  clear bC L0 L1 bC1 bR0
  go_upto_region 8 with fail
  clear l0 s0
  generalize (wx.alloc (.cells (numL 65 zeroT).toArray 26)).setCells wx.heap.size 0 (numL 65 T) = W1 at *
  generalize wx.heap.size = m at *
  go_wp2_with fail
  refine (r10New_any W1).mono ?_
  rintro e w2 ⟨rfl, m2⟩
  have LL2 := LL.trans (m2.mono LL.size)
  have bT2 := bb bT m2
  have bS2 := bb bS m2
  have bR2 := bb bR m2
  have s2 := st_tab bT2 newT
  have HA := Lib.hid (And.intro (nb_full bT2 newT) (And.intro ((nb_other (b := m) (k := w.heap.size + 1) (by omega) (numL 65 newT) 0 w2).trans bS2) (And.intro ((nb_other (b := m) (k := w.heap.size + 2) (by omega) (numL 65 newT) 0 w2).trans bR2) (below_setCells m (by omega) (numL 65 newT) 0 w _ LL2))))
  clear bT bS bR LL bT2 bS2 bR2 LL2 m2 hh
  go_upto_region 10 with fail
  clear s2
  obtain ⟨bT, bS, bR, LL⟩ := HA.out
  clear HA
  generalize w2.setCells m 0 (numL 65 newT) = W1 at *
  have HI := Lib.hid (show TkI newT ba tv sa sn sc w m (rs.take 0) W1 from ⟨LL, bT, bS, bR⟩)
  have HM := Lib.hid hm
  clear bT bS bR LL hm
  go_wp2
  skip
  go_loopw [8, 9] (fun i _ wr => ∃ k : Nat, k ≤ sn ∧ i = .int .i64 (k : Nat) ∧ TkI newT ba tv sa sn sc w m (rs.take k) wr) (fun i _ _ => sn - (intOf i).toNat)
  case atStart => exact ⟨0, by omega, rfl, HI.out⟩
  case round =>
    obtain ⟨k, hk, rfl, hI⟩ := hrel
    clear HI
    by_cases hlt : k < sn
    · have hk0 : (0 : Int) ≤ (k : Int) := by omega
      have hk1 : (k : Int) < (sn : Int) := by omega
      have hkl : k < rs.length := by rw [HRI.out.2.1]; exact hlt
      have hSR := HSR.out.below hI.lo
      obtain ⟨bs, off, rfl, hbs⟩ := sr_addr hSR (by omega)
      obtain ⟨c0, c1, c2, c3, c4⟩ := sr_at hSR k hkl
      have hr := HRI.out.1 (rs[k]?.getD sr0) (by rw [List.getElem?_eq_getElem hkl]; exact List.getElem_mem hkl)
      have hst := ly_step (X := newT) hkl
      obtain ⟨q0, q1, q2⟩ := sh_cells _ _ _ _ _ hI.sb
      generalize rs[k]?.getD sr0 = r at *
      obtain ⟨z, u0, u1, u2, u3⟩ := r
      obtain ⟨b, rfl⟩ : ∃ b : Nat, z = (b : Int) := ⟨z.toNat, by simp only at hr; omega⟩
      have hb16 : b < 16 := by simp only at hr; omega
      have hb1 : (b : Int) < 16 := by omega
      simp only [Int.toNat_natCast] at hst
      simp only at c0 c1 c2 c3 c4
      have q := rng_row hI.tb b hb16
      obtain ⟨t, ht⟩ : ∃ t, rowT (ly newT (rs.take k)) b = t := ⟨_, rfl⟩
      rw [ht] at q
      have hnw : nwR (ly newT (rs.take k)) ((b : Int), u0, u1, u2, u3) = decide (t.2.2.1 < u2) := by rw [← ht]; rfl
      rw [hnw] at hst
      obtain ⟨t0, t1, t2, t3⟩ := t
      simp only at hst
      clear ht hnw hr
      obtain ⟨x0, x1, x2, x3⟩ := ent_of_range _ _ _ _ q
      have hft := nb_frozen hI.tb
      have HI2 := Lib.hid hI
      have HST := Lib.hid hst
      clear hI q hst hSR hbs
      go_upto_region 14 with fail
      go_quiet (fail)
      obtain ⟨p, hp⟩ : ∃ p, decide (t2 < u2) = p := ⟨_, rfl⟩
      replace HST := Lib.hid (show ly newT (rs.take (k + 1)) = if p = true then setR (ly newT (rs.take k)) b (u0, u1, u2, u3) else ly newT (rs.take k) by rw [HST.out, hp])
      rw [hp]
      clear hp
      have hI : TkI newT ba tv (some ⟨bs, off, none⟩) sn sc w m (rs.take k) (wr.drewN nq) := ⟨below_tb HI2.out.lo nq, HI2.out.tb, HI2.out.sb, HI2.out.ret⟩
      have cc : ∀ a, (wr.drewN nq).cell? a = wr.cell? a := fun _ => rfl
      have ff : ∀ a, (wr.drewN nq).frozen? a = wr.frozen? a := fun _ => rfl
      rw [← cc] at c0 c1 c2 c3 c4 q0 q1 q2 x0 x1 x2 x3
      have f0 : (wr.drewN nq).frozen? ⟨m, 1 + b * 4, none⟩ = false := hft _
      have f1 : (wr.drewN nq).frozen? ⟨m, 1 + b * 4 + 1, none⟩ = false := hft _
      have f2 : (wr.drewN nq).frozen? ⟨m, 1 + b * 4 + 2, none⟩ = false := hft _
      have f3 : (wr.drewN nq).frozen? ⟨m, 1 + b * 4 + 3, none⟩ = false := hft _
      clear HI2 hft cc ff
      generalize wr.drewN nq = W2 at *
      cases p
      · have HIX := Lib.hid (show TkI newT ba tv (some ⟨bs, off, none⟩) sn sc w m (rs.take (k + 1)) W2 from ⟨hI.lo, by rw [HST.out]; exact hI.tb, hI.sb, hI.ret⟩)
        clear hI c0 c1 c2 c3 c4 q0 q1 q2 x0 x1 x2 x3 f0 f1 f2 f3
        go_wp2
        go_roundw
        case rel => exact ⟨k + 1, by omega, by go_num, HIX.out⟩
        case measure => simp [intOf]; omega
      · have hm3 := HM.out
        have HIX := Lib.hid (show TkI newT ba tv (some ⟨bs, off, none⟩) sn sc w m (rs.take (k + 1)) (W2.setCells m (1 + b * 4) [.int .i64 u0, .int .i64 u1, .int .i64 u2, .int .i64 u3]) from
          ⟨below_setCells m (by omega) _ _ w _ hI.lo, by rw [HST.out]; exact nb_row hI.tb b (u0, u1, u2, u3), (nb_other (by omega) _ _ _).trans hI.sb, (nb_other (by omega) _ _ _).trans hI.ret⟩)
        clear hI hm3
        go_wp2
        go_roundw
        case rel => exact ⟨k + 1, by omega, by go_num, HIX.out⟩
        case measure => simp [intOf]; omega
    · obtain rfl : k = sn := by omega
      rw [show rs.take k = rs from List.take_of_length_le (by rw [HRI.out.2.1]; exact Nat.le_refl _)] at hI
      have hm3 := HM.out
      obtain ⟨q0, q1, q2⟩ := sh_cells _ _ _ _ _ hI.sb
      have c0 := nb_cell hI.tb (o := 0) (by omega)
      have g0 := nb_frozen hI.tb 0
      have HI2 := Lib.hid hI
      have HM3 := Lib.hid hm3
      clear hI hm3
      go_upto_region 17 with fail
      have hm3 := HM3.out
      have hT6 : NB m 26 65 (upd (ly newT rs) 0 tv) (wr.setCell ⟨m, 0, none⟩ (.int .i64 tv)) := nb_put HI2.out.tb 0 tv
      have hR6 : CB (w.heap.size + 2) false zeroT (wr.setCell ⟨m, 0, none⟩ (.int .i64 tv)) := (Below.heap_setCell wr ⟨m, 0, none⟩ (.int .i64 tv) (w.heap.size + 2) (by show w.heap.size + 2 ≠ m; omega)).trans HI2.out.ret
      have hB6 : Below w.heap.size w (wr.setCell ⟨m, 0, none⟩ (.int .i64 tv)) := HI2.out.lo.setCell (p := ⟨m, 0, none⟩) (by show w.heap.size ≤ m; omega) (.int .i64 tv)
      clear HI2 c0 g0 q0 q1 q2 hm3
      generalize wr.setCell ⟨m, 0, none⟩ (.int .i64 tv) = W6 at *
      have l6 := ld_tab hT6
      have s6 := st_cli hR6 true (upd (ly newT rs) 0 tv)
      have HS := Lib.hid (cb_full hR6 true (upd (ly newT rs) 0 tv))
      have HX := Lib.hid (below_setCells (w.heap.size + 2) (by omega) (cliL true (upd (ly newT rs) 0 tv)) 0 w _ hB6)
      clear hT6 hR6 hB6
      go_wp2
      refine bodyPost_ret (results_cli3 rfl _ _ (w.heap.size + 2) _ (0, 0) rfl HS.out (by simp [cliL_len])) rfl ⟨?_, HX.out⟩
      rw [HT.out]
      rfl

theorem r12Take_any (h : Bool) (T : Nat → Int) (ba tv : Int) (sa : Option Addr) (sn sc : Nat) (rs : List SR) (hl : rs.length = sn) (hs : sn ≤ 4000000) (w : World) (hsr : SRow5 w.heap.size w sa rs) :
    Calls Try.prog 28 #[cliV h T, .agg #[.int .i64 ba, .int .i64 tv, .slice sa sn sc]] w (CliRet (tkR h T ba tv rs) w) := by
  cases h
  · exact r12Take_f T ba tv sa sn sc rs hl hs w hsr
  · exact r12Take_t T ba tv sa sn sc rs hl hs w hsr
end Go.Proofs.Ythgoopdekllanaa

/- A sheet's bytes taken by a client: the document's Bytes. -/
namespace Go.Proofs.Ythgoopdekllanaa
open Go.RowKit Go.Shelf
open SumM

attribute [local go_sem] Oper.semAt_some guard_undef
attribute [local go_sem ↓] nm_ldT nm_ldA nm_stT nm_ldC nm_stC nm_buT nm_buC
attribute [local go_sem ↓] zero_tab zero_cli

set_option maxRecDepth 100000 in
set_option maxHeartbeats 8000000 in
theorem r12Bytes_any (h : Bool) (T : Nat → Int) (A : Option Addr) (n c : Nat) (bs : List Int) (hl : bs.length = n) (hc : n ≤ c) (hs : n ≤ 4000) (w : World) (hr : Row .u8 w.heap.size w A bs) :
    Calls Try.prog 30 #[cliV h T, .slice A n c] w (CliRet (byR h T bs) w) := by
  have bC := blkN (heap_alloc_new w (.cells (cliL h T).toArray 45)) (.cells (cliL false zeroT).toArray 45)
  have bR := newN (w.alloc (.cells (cliL h T).toArray 45)) (.cells (cliL false zeroT).toArray 45) (w.heap.size + 1) (by simp)
  have L0 := ((Below.refl w.heap.size w).alloc (Nat.le_refl _) (.cells (cliL h T).toArray 45)).alloc (by simp) (.cells (cliL false zeroT).toArray 45)
  go_enter Try.func30, Try.ntmps30
  go_upto_region 1 with fail
  generalize (w.alloc (.cells (cliL h T).toArray 45)).alloc (.cells (cliL false zeroT).toArray 45) = W0 at *
  have hlen := tk_len bs
  obtain ⟨⟨x, y, rs, z⟩, hq⟩ : ∃ r, tkS bs = r := ⟨_, rfl⟩
  have KT := Lib.hid (hq ▸ r11Take_any A n c bs hl hc (by omega) W0 ((hr.below L0).more L0.size))
  rw [hq] at hlen
  have HB := Lib.hid (show byR h T bs = if z = 0 then tkR h T x y rs else (h, T, false, z) by unfold byR; rw [hq])
  clear hr hl hc hq
  obtain ⟨n0, hn0⟩ : ∃ n0, rs.length = n0 := ⟨_, rfl⟩
  have HN := Lib.hid (And.intro hn0 (show n0 ≤ 4000000 by simp only at hlen; omega))
  clear hn0 hlen
  go_wp2_with fail
  refine KT.out.mono ?_
  intro e w1 hE
  obtain ⟨S, cS, rfl, hS0, hSc, O1, m1⟩ := ShRet.slice HN.out.1 hE
  replace bC := bb bC m1
  replace bR := bb bR m1
  replace L0 := L0.trans (m1.mono L0.size)
  have hSR := SRow.of_own rowC_len (by decide) O1
  have hd := heap_alloc_new w1 (.cells #[.int .i64 0, .int .i64 0, .slice none 0 0] 29)
  obtain ⟨z0, z1, z2⟩ := sh_cells _ _ _ _ _ hd
  have f0 := sh_frozen hd 0
  have f1 := sh_frozen hd 1
  have f2 := sh_frozen hd 2
  have hX := shBox w1 x y S n0 cS
  have bC2 := blkN bC (.cells #[.int .i64 x, .int .i64 y, .slice S n0 cS] 29)
  have bR2 := blkN bR (.cells #[.int .i64 x, .int .i64 y, .slice S n0 cS] 29)
  have m2 := (Below.refl w1.heap.size w1).alloc (Nat.le_refl _) (.cells #[.int .i64 x, .int .i64 y, .slice S n0 cS] 29)
  have L2 := L0.trans (m2.mono L0.size)
  have hSR2 := hSR.below m2
  have HA := Lib.hid (And.intro bC2 (And.intro bR2 (And.intro L2 (And.intro (hSR2.more m2.size) hX))))
  clear bC bR L0 hd hX bC2 bR2 m2 L2 hSR hSR2 O1 m1 KT hE
  by_cases hz : z = 0
  rotate_left
  · have hz' : (z != 0) = true := by simpa using hz
    have HE := Lib.hid (show byR h T bs = (h, T, false, z) by rw [HB.out, if_neg hz])
    go_upto_region 3 with fail
    clear z0 z1 z2 f0 f1 f2
    obtain ⟨bC, bR, L0, hSR, hX⟩ := HA.out
    clear HA hX hSR
    generalize w1.alloc (.cells #[.int .i64 x, .int .i64 y, .slice S n0 cS] 29) = W2 at *
    generalize w1.heap.size = m at *
    have l0 := ld_cli bC
    have s4 := st_cli bR h T
    have HS := Lib.hid (cb_full bR h T)
    have HX := Lib.hid (below_setCells (w.heap.size + 1) (by omega) (cliL h T) 0 w _ L0)
    clear bC bR L0
    go_wp2
    refine bodyPost_ret (results_cli3 rfl _ _ (w.heap.size + 1) _ (0, 0) rfl HS.out (by simp [cliL_len])) rfl ⟨?_, HX.out⟩
    rw [HE.out]
    rfl
  subst hz
  replace HB := Lib.hid (show byR h T bs = tkR h T x y rs from HB.out)
  go_upto_region 4 with fail
  clear z0 z1 z2 f0 f1 f2
  obtain ⟨bC, bR, L0, hSR, hX⟩ := HA.out
  have l0 := ld_cli bC
  obtain ⟨q0, q1, q2⟩ := sh_cells _ _ _ _ _ hX
  have KT := Lib.hid (fun W (hW : SRow5 W.heap.size W S rs) => r12Take_any h T x y S n0 cS rs HN.out.1 HN.out.2 W hW)
  generalize w1.alloc (.cells #[.int .i64 x, .int .i64 y, .slice S n0 cS] 29) = W2 at *
  generalize w1.heap.size = m at *
  have KT2 := Lib.hid (KT.out W2 hSR)
  clear KT HA hX hSR
  go_wp2_with fail
  refine KT2.out.mono ?_
  rintro e w3 ⟨rfl, m3⟩
  replace bR := bb bR m3
  replace L0 := L0.trans (m3.mono L0.size)
  generalize tkR h T x y rs = r at *
  obtain ⟨h', T', ok, e⟩ := r
  have s4 := st_cli bR h' T'
  have HS := Lib.hid (cb_full bR h' T')
  have HX := Lib.hid (below_setCells (w.heap.size + 1) (by omega) (cliL h' T') 0 w _ L0)
  clear bC bR L0 m3 KT2 l0 q0 q1 q2
  go_wp2
  refine bodyPost_ret (results_cli3 rfl _ _ (w.heap.size + 1) _ (0, 0) rfl HS.out (by simp [cliL_len])) rfl ⟨?_, HX.out⟩
  rw [HB.out]
  rfl
end Go.Proofs.Ythgoopdekllanaa
