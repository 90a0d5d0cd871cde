/- ClientBytes, walked. -/
import Derived.Test.YthgoopdekllanaaClI
import Derived.Test.YthgoopdekllanaaSrP
import Derived.Test.YthgoopdekllanaaClL
import Derived.Test.YthgoopdekllanaaShX
import Derived.Deep.RegionHeldLaw
namespace Go.Proofs.Ythgoopdekllanaa
open Go.RowKit Go.Shelf
open SumM
attribute [local go_sem] Oper.semAt_some guard_undef
attribute [local go_sem ↓] nm_ldT nm_ldA nm_stT nm_ldC nm_stC nm_buT nm_buC
attribute [local go_sem ↓] zero_tab zero_cli
attribute [local go_sem] grd_tab grd_cli

theorem in_appC {m : Int} {a b : List Int} (ha : In m a) (hb : In m b) : In m (a ++ b) := fun x hx => (List.mem_append.1 hx).elim (ha x) (hb x)
theorem rowB_inC (r : SR) : In 255 (rowB r) := in_appC (in_appC (in_appC (in_appC (be_in _ _) (be_in _ _)) (be_in _ _)) (be_in _ _)) (be_in _ _)
theorem shB_inC (ba tv : Int) (rs : List SR) : In 255 (shB ba tv rs) := in_appC (in_appC (in_appC (be_in _ _) (be_in _ _)) (be_in _ _)) (fun x hx => by
  obtain ⟨r, _, h⟩ := List.mem_flatMap.1 hx
  exact rowB_inC r x h)
theorem great12b_any (ba tv : Int) (sa : Option Addr) (sn sc : Nat) (w : World) :
    Calls Try.prog 25 #[.agg #[.int .i64 ba, .int .i64 tv, .slice sa sn sc]] w fun e w' => e = .returned (.bool (decide ((40 : Int) < (sn : Int)))) ∧ Below w.heap.size w w' := by
  have bS := heap_alloc_new w (.cells #[.int .i64 ba, .int .i64 tv, .slice sa sn sc] 29)
  obtain ⟨q0, q1, q2⟩ := sh_cells _ _ _ _ _ bS
  have L := (Below.refl w.heap.size w).alloc (Nat.le_refl _) (.cells #[.int .i64 ba, .int .i64 tv, .slice sa sn sc] 29)
  go_enter Try.func25, Try.ntmps25
  go_wp2
  go_ret
  exact ⟨rfl, L⟩

set_option maxRecDepth 100000 in
set_option maxHeartbeats 16000000 in
theorem clBytes_walk (h : Bool) (T : Nat → Int) (ba tv : Int) (sa : Option Addr) (sn sc : Nat) (rs : List SR) (a : Option Addr) (len cap : Nat) (zz : List Int) (w : World) (_ : TabOk T) (h0 : IsSh w sa sn sc rs) (h1 : IsRow .u8 w a len cap zz) :
    Calls Try.prog 7 #[cliV h T, .agg #[.int .i64 ba, .int .i64 tv, .slice sa sn sc], .slice a len cap] w fun e w' => e = .returned (.bool true) ∧ Below w.heap.size w w' := by
  have WKS := Lib.hid (fun W => wakes12_any W)
  have hsr := h0.row
  have hl := h0.hl
  obtain ⟨hrz, hzl, _, hlz, hmz⟩ := h1.row
  generalize zz.take len = bs at *
  clear h0 h1 hmz
  have bC := blkN (heap_alloc_new w (.cells (cliL h T).toArray 45)) (.cells #[.int .i64 ba, .int .i64 tv, .slice sa sn sc] 29)
  have bS := newN (w.alloc (.cells (cliL h T).toArray 45)) (.cells #[.int .i64 ba, .int .i64 tv, .slice sa sn sc] 29) (w.heap.size + 1) (by simp)
  have L0 := ((Below.refl w.heap.size w).alloc (Nat.le_refl _) (.cells (cliL h T).toArray 45)).alloc (by simp) (.cells #[.int .i64 ba, .int .i64 tv, .slice sa sn sc] 29)
  go_enter Try.func7, Try.ntmps7
  go_upto_region 1 with fail
  generalize (w.alloc (.cells (cliL h T).toArray 45)).alloc (.cells #[.int .i64 ba, .int .i64 tv, .slice sa sn sc] 29) = W0 at *
  obtain ⟨q0, q1, q2⟩ := sh_cells _ _ _ _ _ bS
  obtain ⟨g0, hg0⟩ : ∃ g, decide ((40 : Int) < (sn : Int)) = g := ⟨_, rfl⟩
  have KG := Lib.hid (hg0 ▸ great12b_any ba tv sa sn sc W0)
  go_wp2_with fail
  refine KG.out.mono ?_
  rintro e w0 ⟨rfl, m0⟩
  replace bC := bb bC m0
  replace bS := bb bS m0
  replace L0 := L0.trans (m0.mono L0.size)
  clear q0 q1 q2 m0 KG
  cases g0
  rotate_left
  · have HX := Lib.hid L0
    clear bC bS L0 hg0 hrz hsr
    go_wp2_with (go_at_call 26; (with_reducible refine (WKS.out _).mono ?_); rintro e w9 ⟨rfl, m9⟩)
    go_ret
    exact ⟨rfl, HX.out.trans (m9.mono HX.out.size)⟩
  have hs : sn ≤ 4000000 := by
    have := of_decide_eq_false hg0
    omega
  have hs40 : sn ≤ 40 := by
    have := of_decide_eq_false hg0
    omega
  clear hg0
  by_cases hbig : 400 < len
  · have p1 : decide ((400 : Int) < (len : Int)) = true := decide_eq_true (by omega)
    have HX := Lib.hid L0
    clear bC bS L0 hrz hsr
    go_wp2_with (go_at_call 26; (with_reducible refine (WKS.out _).mono ?_); rintro e w9 ⟨rfl, m9⟩)
    go_ret
    exact ⟨rfl, HX.out.trans (m9.mono HX.out.size)⟩
  have p1 : decide ((400 : Int) < (len : Int)) = false := decide_eq_false (by omega)
  obtain ⟨⟨x9, y9, r9, z9⟩, hq⟩ : ∃ r, tkS bs = r := ⟨_, rfl⟩
  obtain ⟨n9, hn9⟩ : ∃ n, r9.length = n := ⟨_, rfl⟩
  have HN2 := Lib.hid hn9
  clear hn9
  obtain ⟨q0, q1, q2⟩ := sh_cells _ _ _ _ _ bS
  have KP := Lib.hid (r11Put_any ba tv sa sn sc rs hl hs w0 ((hsr.below L0).more L0.size))
  go_upto_region 3 with fail
  clear p1
  go_wp2_with fail
  refine KP.out.mono ?_
  rintro e w1 ⟨v1, rfl, O1, m1⟩
  replace bC := bb bC m1
  replace bS := bb bS m1
  replace L0 := L0.trans (m1.mono L0.size)
  clear q0 q1 q2 m1 KP
  by_cases hok : shOk ba tv rs = true
  rotate_left
  · have hE : spE ba tv rs = 2 := by unfold spE; rw [if_neg hok]
    rw [hE]
    clear O1 hE
    go_upto_region 9 with fail
    have HLX := Lib.hid (And.intro bC (And.intro bS L0))
    have KK := Lib.hid (hq ▸ r11Take_any a len cap bs hzl hlz (by omega) w1 ((hrz.below L0).more L0.size))
    go_wp2_with fail
    refine KK.out.mono ?_
    intro e w6 hE
    obtain ⟨S6, c6, rfl, -, -, O6, m6⟩ := ShRet.slice HN2.out hE
    clear hE KK O6
    have hz6 := heap_alloc_new w6 (.cells #[.int .i64 0, .int .i64 0, .slice none 0 0] 29)
    obtain ⟨z0, z1, z2⟩ := sh_cells _ _ _ _ _ hz6
    have f0 := sh_frozen hz6 0
    have f1 := sh_frozen hz6 1
    have f2 := sh_frozen hz6 2
    have k6 := m6.alloc m6.size (.cells #[.int .i64 x9, .int .i64 y9, .slice S6 n9 c6] 29)
    replace bC := bb bC k6
    replace L0 := L0.trans (k6.mono L0.size)
    clear hz6 m6 k6 bS HLX
    go_upto_region 10 with fail
    clear z0 z1 z2 f0 f1 f2
    generalize w6.alloc (.cells #[.int .i64 x9, .int .i64 y9, .slice S6 n9 c6] 29) = W6 at *
    generalize w6.heap.size = b15 at *
    have l0 := ld_cli bC
    have KB6 := cBytes_any h T a len cap bs hzl hlz (by omega) W6 ((hrz.below L0).more L0.size)
    by_cases hz9 : z9 = 0
    · subst hz9
      obtain ⟨⟨h7, T7, ok7, e7⟩, hr7⟩ : ∃ r, byR h T bs = r := ⟨_, rfl⟩
      rw [hr7] at KB6
      have KB7 := Lib.hid KB6
      clear KB6 hr7
      go_wp2_with fail
      refine KB7.out.mono ?_
      rintro e w7 ⟨rfl, m7⟩
      have hd : CB w7.heap.size false zeroT (w7.alloc (.cells (cliL false zeroT).toArray 45)) := heap_alloc_new w7 _
      have s9 := st_cli hd h7 T7
      obtain ⟨bO, k2⟩ := boxC_new w7 h7 T7
      have LX := Lib.hid ((L0.trans (m7.mono L0.size)).trans (k2.mono (L0.trans (m7.mono L0.size)).size))
      clear hd m7 k2 bO bC L0 l0 hrz hq
      go_wp2_with (go_at_call 26; (with_reducible refine (WKS.out _).mono ?_); rintro e w9 ⟨rfl, m9⟩)
      go_ret
      exact ⟨rfl, LX.out.trans (m9.mono LX.out.size)⟩
    rw [show byR h T bs = (h, T, false, z9) by unfold byR; rw [hq]; exact if_neg hz9] at KB6
    have KB7 := Lib.hid KB6
    clear KB6
    go_wp2_with fail
    refine KB7.out.mono ?_
    rintro e w7 ⟨rfl, m7⟩
    have hd : CB w7.heap.size false zeroT (w7.alloc (.cells (cliL false zeroT).toArray 45)) := heap_alloc_new w7 _
    have s9 := st_cli hd h T
    obtain ⟨bO, k2⟩ := boxC_new w7 h T
    have m8 := m7.trans (k2.mono m7.size)
    replace bC := bb bC m8
    replace L0 := L0.trans (m8.mono L0.size)
    clear hd m7 k2 l0 m8 hrz hq
    go_upto_region 11 with fail
    clear s9
    generalize (w7.alloc (.cells (cliL false zeroT).toArray 45)).setCells w7.heap.size 0 (cliL h T) = W7 at *
    generalize w7.heap.size = b17 at *
    have l1 := ld_cli bC
    have l2 := ld_cli bO
    have p9 : (z9 == 0) = false := by simpa using hz9
    have hEq : ∀ W, (Op.equalIn 10000 45 (cliV h T) (cliV h T)).run Try.prog W = .ok true W := fun W => by
      have h9 := run_eqC h T h T W
      rwa [eqC_refl] at h9
    have LX := Lib.hid L0
    clear bC bO L0
    go_wp2_with (go_at_call 26; (with_reducible refine (WKS.out _).mono ?_); rintro e w9 ⟨rfl, m9⟩)
    go_ret
    exact ⟨rfl, LX.out.trans (m9.mono LX.out.size)⟩
  have hE : spE ba tv rs = 0 := by unfold spE; rw [if_pos hok]
  have hB : spB ba tv rs = shB ba tv rs := by unfold spB; rw [if_pos hok]
  have hk := shOk_iff hok
  have hbl : (shB ba tv rs).length = 13 + 13 * sn := by
    unfold shB
    simp only [List.length_append, be_length, flat_len]
    omega
  rw [hE]
  rw [hB, hbl] at O1
  obtain ⟨A1, c1, rfl, hA1, hc1, -⟩ := ownS_slice O1
  have HR1 := Row.of_own O1 (fun x hx => wf_u8.2 (shB_inC ba tv rs x hx))
  clear O1 hE hB
  obtain ⟨⟨h2, T2, ok2, e2⟩, hr2⟩ : ∃ r, tkR h T ba tv rs = r := ⟨_, rfl⟩
  have KT := Lib.hid (hr2 ▸ cTake_any h T ba tv sa sn sc rs hl hs w1 ((hsr.below L0).more L0.size))
  have hby : byR h T (shB ba tv rs) = (h2, T2, ok2, e2) := by
    unfold byR
    rw [put_tk hok]
    exact hr2
  have KB := Lib.hid (fun W (m : Below w1.heap.size w1 W) => hby ▸ cBytes_any h T A1 (13 + 13 * sn) c1 (shB ba tv rs) hbl hc1 (by omega) W ((HR1.below m).more m.size))
  clear hr2 hby hk hbl HR1
  have l0 := ld_cli bC
  obtain ⟨q0, q1, q2⟩ := sh_cells _ _ _ _ _ bS
  go_wp2_with fail
  refine KT.out.mono ?_
  rintro e w2 ⟨rfl, m2⟩
  have hd : CB w2.heap.size false zeroT (w2.alloc (.cells (cliL false zeroT).toArray 45)) := heap_alloc_new w2 _
  have s9 := st_cli hd h2 T2
  obtain ⟨b9, k2⟩ := boxC_new w2 h2 T2
  have m3 := m2.trans (k2.mono m2.size)
  replace bC := bb bC m3
  replace bS := bb bS m3
  replace L0 := L0.trans (m3.mono L0.size)
  clear hd m2 k2 l0 q0 q1 q2 KT
  go_upto_region 6 with fail
  clear s9
  generalize (w2.alloc (.cells (cliL false zeroT).toArray 45)).setCells w2.heap.size 0 (cliL h2 T2) = W3 at *
  generalize w2.heap.size = bx at *
  have l0 := ld_cli bC
  go_wp2_with fail
  refine (KB.out W3 m3).mono ?_
  rintro e w4 ⟨rfl, m4⟩
  have hd : CB w4.heap.size false zeroT (w4.alloc (.cells (cliL false zeroT).toArray 45)) := heap_alloc_new w4 _
  have s9 := st_cli hd h2 T2
  obtain ⟨b12, k2⟩ := boxC_new w4 h2 T2
  have m5 := m4.trans (k2.mono m4.size)
  replace bC := bb bC m5
  replace bS := bb bS m5
  replace b9 := bb b9 m5
  replace L0 := L0.trans (m5.mono L0.size)
  clear hd m4 k2 l0 m5 KB m3
  go_upto_region 7 with fail
  clear s9
  generalize (w4.alloc (.cells (cliL false zeroT).toArray 45)).setCells w4.heap.size 0 (cliL h2 T2) = W5 at *
  generalize w4.heap.size = by1 at *
  have l1 := ld_cli b9
  have l2 := ld_cli b12
  have hEq : ∀ W, (Op.equalIn 10000 45 (cliV h2 T2) (cliV h2 T2)).run Try.prog W = .ok true W := fun W => by
    have h9 := run_eqC h2 T2 h2 T2 W
    rwa [eqC_refl] at h9
  go_upto_region 9 with fail
  clear l1 l2 hEq b9 b12
  have HLX := Lib.hid (And.intro bC (And.intro bS L0))
  have KK := Lib.hid (hq ▸ r11Take_any a len cap bs hzl hlz (by omega) W5 ((hrz.below L0).more L0.size))
  go_wp2_with fail
  refine KK.out.mono ?_
  intro e w6 hE
  obtain ⟨S6, c6, rfl, -, -, O6, m6⟩ := ShRet.slice HN2.out hE
  clear hE KK O6
  have hz6 := heap_alloc_new w6 (.cells #[.int .i64 0, .int .i64 0, .slice none 0 0] 29)
  obtain ⟨z0, z1, z2⟩ := sh_cells _ _ _ _ _ hz6
  have f0 := sh_frozen hz6 0
  have f1 := sh_frozen hz6 1
  have f2 := sh_frozen hz6 2
  have k6 := m6.alloc m6.size (.cells #[.int .i64 x9, .int .i64 y9, .slice S6 n9 c6] 29)
  replace bC := bb bC k6
  replace L0 := L0.trans (k6.mono L0.size)
  clear hz6 m6 k6 bS HLX
  go_upto_region 10 with fail
  clear z0 z1 z2 f0 f1 f2
  generalize w6.alloc (.cells #[.int .i64 x9, .int .i64 y9, .slice S6 n9 c6] 29) = W6 at *
  generalize w6.heap.size = b15 at *
  have l0 := ld_cli bC
  have KB6 := cBytes_any h T a len cap bs hzl hlz (by omega) W6 ((hrz.below L0).more L0.size)
  by_cases hz9 : z9 = 0
  · subst hz9
    obtain ⟨⟨h7, T7, ok7, e7⟩, hr7⟩ : ∃ r, byR h T bs = r := ⟨_, rfl⟩
    rw [hr7] at KB6
    have KB7 := Lib.hid KB6
    clear KB6 hr7
    go_wp2_with fail
    refine KB7.out.mono ?_
    rintro e w7 ⟨rfl, m7⟩
    have hd : CB w7.heap.size false zeroT (w7.alloc (.cells (cliL false zeroT).toArray 45)) := heap_alloc_new w7 _
    have s9 := st_cli hd h7 T7
    obtain ⟨bO, k2⟩ := boxC_new w7 h7 T7
    have LX := Lib.hid ((L0.trans (m7.mono L0.size)).trans (k2.mono (L0.trans (m7.mono L0.size)).size))
    clear hd m7 k2 bO bC L0 l0 hrz hq
    go_wp2_with (go_at_call 26; (with_reducible refine (WKS.out _).mono ?_); rintro e w9 ⟨rfl, m9⟩)
    go_ret
    exact ⟨rfl, LX.out.trans (m9.mono LX.out.size)⟩
  rw [show byR h T bs = (h, T, false, z9) by unfold byR; rw [hq]; exact if_neg hz9] at KB6
  have KB7 := Lib.hid KB6
  clear KB6
  go_wp2_with fail
  refine KB7.out.mono ?_
  rintro e w7 ⟨rfl, m7⟩
  have hd : CB w7.heap.size false zeroT (w7.alloc (.cells (cliL false zeroT).toArray 45)) := heap_alloc_new w7 _
  have s9 := st_cli hd h T
  obtain ⟨bO, k2⟩ := boxC_new w7 h T
  have m8 := m7.trans (k2.mono m7.size)
  replace bC := bb bC m8
  replace L0 := L0.trans (m8.mono L0.size)
  clear hd m7 k2 l0 m8 hrz hq
  go_upto_region 11 with fail
  clear s9
  generalize (w7.alloc (.cells (cliL false zeroT).toArray 45)).setCells w7.heap.size 0 (cliL h T) = W7 at *
  generalize w7.heap.size = b17 at *
  have l1 := ld_cli bC
  have l2 := ld_cli bO
  have p9 : (z9 == 0) = false := by simpa using hz9
  have hEq : ∀ W, (Op.equalIn 10000 45 (cliV h T) (cliV h T)).run Try.prog W = .ok true W := fun W => by
    have h9 := run_eqC h T h T W
    rwa [eqC_refl] at h9
  have LX := Lib.hid L0
  clear bC bO L0
  go_wp2_with (go_at_call 26; (with_reducible refine (WKS.out _).mono ?_); rintro e w9 ⟨rfl, m9⟩)
  go_ret
  exact ⟨rfl, LX.out.trans (m9.mono LX.out.size)⟩
end Go.Proofs.Ythgoopdekllanaa
