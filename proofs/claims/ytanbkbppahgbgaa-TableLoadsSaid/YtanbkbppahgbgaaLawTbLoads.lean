/- 'handfastlaw10.TableLoads' returns true at every table, backends, and leaves what lay as it lay. -/
import Derived.Test.YtanbkbppahgbgaaTbW
import Derived.Test.YtanbkbppahgbgaaTbL
import Derived.Test.YtanbkbppahgbgaaTbP
namespace Go.Proofs.Ytanbkbppahgbgaa
open Go.RowKit Go.Shelf
open SumM

attribute [local go_sem] Oper.semAt_some zero_tab guard_undef
attribute [local go_sem ↓] nm_ldT nm_ldA nm_ldN nm_stT nm_stN

set_option maxRecDepth 100000 in
set_option maxHeartbeats 16000000 in
theorem tbLoads_walk (T : Nat → Int) (s : Int) (w : World) (_hT : TabOk T) (_hs : (Lit.int .u8 s).wf = true) :
    Calls Try.prog 6 #[tabV T, .int .u8 s] w fun e w' => e = .returned (.bool true) ∧ Below w.heap.size w w' := by
  have TW := Lib.hid twakes_any
  have bT := heap_alloc_new w (.cells (numL 65 T).toArray 26)
  have L0 := (Below.refl w.heap.size w).alloc (Nat.le_refl _) (.cells (numL 65 T).toArray 26)
  go_enter Try.func6, Try.ntmps6
  go_upto_region 1 with (fail)
  generalize w.alloc (.cells (numL 65 T).toArray 26) = W0 at *
  have l0 := ld_tab bT
  obtain ⟨r, hr⟩ : ∃ r, rgT T = r := ⟨_, rfl⟩
  have KR := Lib.hid (fun W => hr ▸ r10Right_any T W)
  have HR := Lib.hid hr
  clear hr
  go_wp2_with fail
  refine (KR.out W0).mono ?_
  rintro e w0 ⟨rfl, m0⟩
  replace bT := bb bT m0
  replace L0 := L0.trans (m0.mono L0.size)
  clear l0 m0 KR
  cases r
  · have HL := Lib.hid L0
    clear L0 bT
    go_wp2_with fail
    refine (TW.out _).mono ?_
    rintro e w3 ⟨rfl, m3⟩
    have L := HL.out.trans (m3.mono HL.out.size)
    go_wp2
    go_ret
    exact ⟨rfl, L⟩
  have l0 := ld_tab bT
  go_wp2_with fail
  refine (loads_any T w0).mono ?_
  rintro e w1 ⟨rfl, m1⟩
  replace bT := bb bT m1
  replace L0 := L0.trans (m1.mono L0.size)
  have bL : NB w1.heap.size 34 6 zeroT (w1.alloc (.cells #[.int .i64 0, .int .i64 0, .int .i64 0, .int .i64 0, .int .i64 0, .int .i64 0] 34)) := heap_alloc_new w1 (.cells (numL 6 zeroT).toArray 34)
  have s0 := st_nums bL (lodT T 16)
  have bA := nb_full bL (lodT T 16)
  have j1 : Below w1.heap.size w1 ((w1.alloc (.cells #[.int .i64 0, .int .i64 0, .int .i64 0, .int .i64 0, .int .i64 0, .int .i64 0] 34)).setCells w1.heap.size 0 (numL 6 (lodT T 16))) := below_setCells w1.heap.size (Nat.le_refl _) (numL 6 (lodT T 16)) 0 w1 _ ((Below.refl _ w1).alloc (Nat.le_refl _) _)
  replace bT := bb bT j1
  have L1 := L0.trans (j1.mono L0.size)
  clear l0 m1 L0 j1 bL
  go_upto_region 4 with fail
  generalize (w1.alloc (.cells #[.int .i64 0, .int .i64 0, .int .i64 0, .int .i64 0, .int .i64 0, .int .i64 0] 34)).setCells w1.heap.size 0 (numL 6 (lodT T 16)) = W1 at *
  generalize w1.heap.size = A1 at *
  have HB := Lib.hid L1
  have HT := Lib.hid bT
  have HA := Lib.hid bA
  have HIN := Lib.hid (lod16 T)
  have HCUR := Lib.hid (fun i hi => rgT_cur HR.out i hi)
  have HOW := Lib.hid (psum_ow T 16 (fun i hi => HCUR.out i hi))
  have HOI := Lib.hid (owT_in T)
  clear s0 L1 bT bA
  go_wp2
  go_loopw [7, 8] (fun o i wr => ∃ k : Nat, k ≤ 16 ∧ i = .int .i64 (k : Nat) ∧ o = .int .i64 (owT T k) ∧ wr = W1) (fun _ i _ => 16 - (intOf i).toNat)
  case atStart => exact ⟨0, by omega, rfl, rfl, rfl⟩
  case round =>
    obtain ⟨k, hk, rfl, rfl, rfl⟩ := hrel
    by_cases hlt : k < 16
    · have hk1 : (k : Int) < 16 := by omega
      have c0 := nb_cell HT.out (o := 1 + k * 4) (by omega)
      have hu : T (1 + k * 4) = (rowT T k).1 := rfl
      rw [hu] at c0
      have ho := HOI.out k
      have HS := Lib.hid (show owT T (k + 1) = if 0 ≤ (rowT T k).1 then owT T k + 1 else owT T k from rfl)
      clear hu
      generalize (rowT T k).1 = c at *
      generalize owT T k = o at *
      have hwr : IntKind.i64.wrap (o + 1) = o + 1 := IntWalk.i64_in _ (by omega)
      clear ho
      by_cases hc : 0 ≤ c
      · go_wp2
        go_roundw
        case rel => exact ⟨k + 1, by omega, by go_num, by rw [HS.out, if_pos hc], trivial⟩
        case measure => simp [intOf]; omega
      · go_wp2
        go_roundw
        case rel => exact ⟨k + 1, by omega, by go_num, by rw [HS.out, if_neg hc], trivial⟩
        case measure => simp [intOf]; omega
    · have hk16 : k = 16 := by omega
      have HOWK := Lib.hid (show psum (lodT T 16) 6 = owT T k by rw [hk16]; exact HOW.out)
      have e16 : decide ((k : Int) < 16) = false := decide_eq_false (by omega)
      clear hlt hk hk16 HOW
      go_wp2
      clear e16
      generalize owT T k = ow at *
      have HLEN := Lib.hid (fun c hc => of_len T c hc 16)
      have HSPR := Lib.hid (show spr T s = apart (pkL s (lodT T 16) 6) from rfl)
      generalize lodT T 16 = L at *
      generalize wr = WB at *
      go_loopw [6, 9, 10, 11] (fun al m i _ wx => ∃ k : Nat, ∃ mm : Int, k ≤ 6 ∧ i = .int .i64 (k : Nat) ∧ al = .int .i64 (psum L k) ∧ m = .int .i64 mm ∧ PM s L k 0 mm ∧ mm ≤ 16 ∧ Below WB.heap.size WB wx) (fun _ _ i _ _ => 6 - (intOf i).toNat)
      case atStart => exact ⟨0, 0, by omega, rfl, rfl, rfl, PM.start s L, by omega, Below.refl _ _⟩
      case round =>
        obtain ⟨k, mm, hk, rfl, rfl, rfl, hP, hm16, hX⟩ := hrel
        have HP := Lib.hid hP
        have HM16 := Lib.hid (And.intro hm16 hP.pos)
        have HX := Lib.hid hX
        by_cases hlt : k < 6
        · have hk1 : (k : Int) < 6 := by omega
          have a0 := nb_cell (bb HA.out hX) hlt
          have hin := HIN.out k
          have hps := psum_in HIN.out k
          have HPS := Lib.hid (show psum L (k + 1) = psum L k + L k from rfl)
          have hlen := HLEN.out k hlt
          have KO := Lib.hid (fun W => of_any T (k : Int) W)
          generalize selI (ofP T (k : Int)) (List.range 16) = zs at *
          have CS := Lib.hid (fun W (m : Below WB.heap.size WB W) => show (ldS 26 (.pointer (some ⟨w.heap.size, 0, none⟩))).run Try.prog W = .ok (tabV T) W ∧ W.cell? ⟨A1, k, none⟩ = some (.int .i64 (L k)) from ⟨ld_tab (bb HT.out m), nb_cell (bb HA.out m) hlt⟩)
          generalize hxk : L k = x at *
          have HXK := Lib.hid hxk
          generalize psum L k = ps at *
          have hwr : IntKind.i64.wrap (ps + x) = ps + x := IntWalk.i64_in _ (by omega)
          have e15 : (((zs.length : Nat) : Int) != x) = false := by rw [hlen]; simp
          have HXI := Lib.hid hin
          clear hP hm16 hin hps hlen hxk hX
          go_upto_region 15 with fail
          clear a0 hwr
          have nc := HX.out.drew
          refine wp_region_held_drew (S := fun W => (ldS 26 (.pointer (some ⟨w.heap.size, 0, none⟩))).run Try.prog W = .ok (tabV T) W ∧ W.cell? ⟨A1, k, none⟩ = some (.int .i64 x)) (by kernel_rfl) (CS.out _ nc) (fun hHeld => ?_)
          refine wpAnyH_take (i := 0) (oi := { dst := some 39, op := Op.load 26 (Operand.tmp 2), type := 26, pos := "law.go:81", after := #[], guard := none }) (v := ?_) rfl (by kernel_rfl) (by kernel_rfl) (by kernel_rfl) (fun _ _ _ h => h) (Or.inl ⟨by rfl, ?_⟩) (by assumption) ?_
          rotate_left
          · intro w hSw
            (try dsimp only at hSw)
            first | (go_simp; done) | (go_simp; with_reducible rfl)
          (try simp only [Act.put, List.setIfInBounds_toArray, List.set_cons_zero, List.set_cons_succ])
          refine wpAnyH_take (i := 1) (oi := { dst := some 40, op := Op.move (Operand.tmp 10), type := 3, pos := "law.go:81", after := #[], guard := none }) (v := ?_) rfl (by kernel_rfl) (by kernel_rfl) (by kernel_rfl) (fun _ _ _ h => h) (Or.inl ⟨by rfl, ?_⟩) (by assumption) ?_
          rotate_left
          · intro w hSw
            (try dsimp only at hSw)
            first | (go_simp; done) | (go_simp; with_reducible rfl)
          (try simp only [Act.put, List.setIfInBounds_toArray, List.set_cons_zero, List.set_cons_succ])
          refine wpAnyH_take (i := 4) (oi := { dst := some 43, op := Op.move (Operand.tmp 10), type := 3, pos := "law.go:81", after := #[], guard := none }) (v := ?_) rfl (by kernel_rfl) (by kernel_rfl) (by kernel_rfl) (fun _ _ _ h => h) (Or.inl ⟨by rfl, ?_⟩) (by assumption) ?_
          rotate_left
          · intro w hSw
            (try dsimp only at hSw)
            first | (go_simp; done) | (go_simp; with_reducible rfl)
          (try simp only [Act.put, List.setIfInBounds_toArray, List.set_cons_zero, List.set_cons_succ])
          refine wpAnyH_take (i := 5) (oi := { dst := some 44, op := Op.indexAddr 34 (Operand.tmp 5) (Operand.tmp 43), type := 0, pos := "law.go:81", after := #[{ on := 4, ground := Ground.data }], guard := none }) (v := ?_) rfl (by kernel_rfl) (by kernel_rfl) (by kernel_rfl) (fun _ _ _ h => h) (Or.inl ⟨by rfl, ?_⟩) (by assumption) ?_
          rotate_left
          · intro w hSw
            (try dsimp only at hSw)
            first | (go_simp; done) | (go_simp; with_reducible rfl)
          (try simp only [Act.put, List.setIfInBounds_toArray, List.set_cons_zero, List.set_cons_succ])
          refine wpAnyH_take (i := 6) (oi := { dst := some 45, op := Op.load 3 (Operand.tmp 44), type := 3, pos := "law.go:81", after := #[{ on := 5, ground := Ground.data }], guard := none }) (v := ?_) rfl (by kernel_rfl) (by kernel_rfl) (by kernel_rfl) (fun _ _ _ h => h) (Or.inl ⟨by rfl, ?_⟩) (by assumption) ?_
          rotate_left
          · intro w hSw
            (try dsimp only at hSw)
            first | (go_simp; done) | (go_simp; with_reducible rfl)
          (try simp only [Act.put, List.setIfInBounds_toArray, List.set_cons_zero, List.set_cons_succ])
          refine wpAnyH_ready (rs := [2]) (by kernel_rfl) (by simp) ?_
          refine AllReadyH.cons (o := { dst := some 41, op := Op.call { callee := Callee.value (Operand.func 21), args := #[Operand.tmp 39, Operand.tmp 40], argTypes := #[26, 3] }, type := 38, pos := "law.go:81", after := #[{ on := 0, ground := Ground.data }, { on := 1, ground := Ground.data }], guard := none }) rfl (fun K hK => ?_) AllReadyH.nil
          go_simp
          refine (KO.out _).mono ?_
          rintro e wx ⟨A2, c2, rfl, R2, jx⟩
          replace nc := nc.trans (jx.mono nc.size)
          clear jx
          refine hK.out _ _ (CS.out _ nc) (fun hHeld => ?_)
          clear hK K
          (try simp only [Act.put, List.setIfInBounds_toArray, List.set_cons_zero, List.set_cons_succ])
          refine wpAnyH_take (i := 3) (oi := { dst := some 42, op := Op.call { callee := Callee.builtin Builtin.len, args := #[Operand.tmp 41], argTypes := #[38] }, type := 3, pos := "law.go:81", after := #[{ on := 2, ground := Ground.data }], guard := none }) (v := ?_) rfl (by kernel_rfl) (by kernel_rfl) (by kernel_rfl) (fun _ _ _ h => h) (Or.inl ⟨by rfl, ?_⟩) (by assumption) ?_
          rotate_left
          · intro w hSw
            (try dsimp only at hSw)
            first | (go_simp; done) | (go_simp; with_reducible rfl)
          (try simp only [Act.put, List.setIfInBounds_toArray, List.set_cons_zero, List.set_cons_succ])
          refine wpAnyH_take (i := 7) (oi := { dst := some 46, op := Op.binOp BinOp.neq 3 (Operand.tmp 42) (Operand.tmp 45) 3, type := 4, pos := "law.go:81", after := #[{ on := 3, ground := Ground.data }, { on := 6, ground := Ground.data }], guard := none }) (v := ?_) rfl (by kernel_rfl) (by kernel_rfl) (by kernel_rfl) (fun _ _ _ h => h) (Or.inl ⟨by rfl, ?_⟩) (by assumption) ?_
          rotate_left
          · intro w hSw
            (try dsimp only at hSw)
            first | (go_simp; done) | (go_simp; with_reducible rfl)
          (try simp only [Act.put, List.setIfInBounds_toArray, List.set_cons_zero, List.set_cons_succ])
          refine wpAnyH_done (by kernel_rfl) ?_ _
          have HX2 := Lib.hid nc
          clear hHeld nc CS KO R2
          generalize wx = wy at *
          go_wp2
          go_loopw [9, 11] (fun m j wz => ∃ c : Nat, ∃ m2 : Int, c ≤ 6 ∧ j = .int .i64 (c : Nat) ∧ m = .int .i64 m2 ∧ PM s L k c m2 ∧ m2 ≤ 16 ∧ Below WB.heap.size WB wz) (fun _ j _ => 6 - (intOf j).toNat)
          case atStart => exact ⟨0, mm, by omega, rfl, rfl, HP.out, HM16.out.1, HX2.out⟩
          case round =>
            obtain ⟨c, m2, hc, rfl, rfl, hP2, hm2, hX3⟩ := hrel
            have HP2 := Lib.hid hP2
            have HM2 := Lib.hid (And.intro hm2 hP2.pos)
            have HX3 := Lib.hid hX3
            by_cases hlc : c < 6
            · have hc1 : (c : Int) < 6 := by omega
              have a1 := nb_cell (bb HA.out hX3) hlt
              have a2 := nb_cell (bb HA.out hX3) hlc
              rw [HXK.out] at a1
              have hin1 := HXI.out
              have hin2 := HIN.out c
              obtain ⟨p, hp⟩ : ∃ p, bt s k = p := ⟨_, rfl⟩
              obtain ⟨q, hq⟩ : ∃ q, bt s c = q := ⟨_, rfl⟩
              have ht1 : (bits BinOp.and IntKind.u8 (s / 2 ^ k) 1 == 1) = p := hp
              have ht2 : (bits BinOp.and IntKind.u8 (s / 2 ^ c) 1 == 1) = q := hq
              have HYES := Lib.hid (fun (h1 : p = true) (h2 : q = true) => HP2.out.yes hlt hlc (hp.trans h1) (hq.trans h2))
              have HNO := Lib.hid (fun (h : ¬ (p = true ∧ q = true)) => HP2.out.no (fun hb => h ⟨hp.symm.trans hb.1, hq.symm.trans hb.2⟩))
              rw [HXK.out] at HYES
              generalize L c = y at *
              have hwr : IntKind.i64.wrap (x - y) = x - y := IntWalk.i64_in _ (by omega)
              have HIN2 := Lib.hid (And.intro hin1 hin2)
              clear hP2 hm2 hX3 hp hq hin1 hin2
              cases p
              · clear a1 a2
                go_wp2
                go_roundw
                case rel => exact ⟨c + 1, m2, by omega, by go_num, rfl, HNO.out (by simp), HM2.out.1, HX3.out⟩
                case measure => simp [intOf]; omega
              cases q
              · clear a1 a2
                go_wp2
                go_roundw
                case rel => exact ⟨c + 1, m2, by omega, by go_num, rfl, HNO.out (by simp), HM2.out.1, HX3.out⟩
                case measure => simp [intOf]; omega
              by_cases hm : m2 < x - y
              · go_upto_region 21 with fail
                go_quiet (fail)
                have HMM := Lib.hid hm
                clear a1 a2 hwr hm ht1 ht2
                go_wp2
                go_roundw
                case rel => exact ⟨c + 1, x - y, by omega, by go_num, rfl, by have := HYES.out (by simp) (by simp); rwa [show max m2 (x - y) = x - y by have := HMM.out; omega] at this, by have := HIN2.out; omega, below_tb HX3.out _⟩
                case measure => simp [intOf]; omega
              · go_upto_region 21 with fail
                go_quiet (fail)
                have HMM := Lib.hid hm
                clear a1 a2 hwr hm ht1 ht2
                go_wp2
                go_roundw
                case rel => exact ⟨c + 1, m2, by omega, by go_num, rfl, by have := HYES.out (by simp) (by simp); rwa [show max m2 (x - y) = m2 by have := HMM.out; omega] at this, HM2.out.1, below_tb HX3.out _⟩
                case measure => simp [intOf]; omega
            · obtain rfl : c = 6 := by omega
              clear hlc hc hP2 hm2 hX3
              go_wp2
              go_roundw
              case rel => exact ⟨k + 1, m2, by omega, by go_num, by rw [HPS.out], rfl, HP2.out.next, HM2.out.1, HX3.out⟩
              case measure => simp [intOf]; omega
        · obtain rfl : k = 6 := by omega
          have bT := bb HT.out hX
          have L9 := HB.out.trans (hX.mono HB.out.size)
          have l0 := ld_tab bT
          have hsp : spr T s = mm := HSPR.out.trans (PM.apart HIN.out hP)
          have KS := Lib.hid (fun W => hsp ▸ spread_any T s W)
          have how := HOWK.out
          rw [how]
          have e1 : (ow == ow) = true := by simp
          have e2 : (mm == mm) = true := by simp
          have HL9 := Lib.hid L9
          clear hX hP hm16 bT L9 hsp how hlt hk HP HM16
          go_wp2_with fail
          refine (KS.out _).mono ?_
          rintro e w7 ⟨rfl, m7⟩
          have HL10 := Lib.hid (HL9.out.trans (m7.mono HL9.out.size))
          clear l0 m7
          go_wp2_with fail
          refine (TW.out _).mono ?_
          rintro e w8 ⟨rfl, m8⟩
          have L := HL10.out.trans (m8.mono HL10.out.size)
          go_wp2
          go_ret
          exact ⟨rfl, L⟩
end Go.Proofs.Ytanbkbppahgbgaa
