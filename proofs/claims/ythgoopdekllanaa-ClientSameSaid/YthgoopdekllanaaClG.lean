/- A sheet's bytes taken by a client: package client's Bytes. -/
import Derived.Test.YthgoopdekllanaaClE
import Derived.Test.YthgoopdekllanaaShY
import Derived.Test.YthgoopdekllanaaShR
namespace Go.Proofs.Ythgoopdekllanaa
open Go.RowKit Go.Shelf
open SumM

attribute [local go_sem] Oper.semAt_some guard_undef
attribute [local go_sem ↓] nm_ldT nm_ldA nm_stT nm_ldC nm_stC nm_buT nm_buC
attribute [local go_sem ↓] zero_tab zero_cli

/-- What a sheet's bytes taken leave. -/
def byR (h : Bool) (T : Nat → Int) (bs : List Int) : Bool × (Nat → Int) × Bool × Int :=
  if (tkS bs).2.2.2 = 0 then tkR h T (tkS bs).1 (tkS bs).2.1 (tkS bs).2.2.1 else (h, T, false, (tkS bs).2.2.2)

theorem tk_len (bs : List Int) : (tkS bs).2.2.1.length ≤ 4000 := by
  unfold tkS
  split
  · simp
  split
  · simp
  split
  · simp
  split
  · rename_i h
    unfold shOk at h
    simp only [Bool.and_eq_true] at h
    have := rises_le h.2
    simp only
    omega
  · simp
/-- The world behind a new sheet's box that was filled. -/
theorem shBox (w1 : World) (x y : Int) (S : Option Addr) (n c : Nat) : (w1.alloc (.cells #[.int .i64 x, .int .i64 y, .slice S n c] 29)).heap[w1.heap.size]? = some (.cells #[.int .i64 x, .int .i64 y, .slice S n c] 29 (0, 0)) := heap_alloc_new w1 _

set_option maxRecDepth 100000 in
set_option maxHeartbeats 8000000 in
theorem cBytes_any (h : Bool) (T : Nat → Int) (A : Option Addr) (n c : Nat) (bs : List Int) (hl : bs.length = n) (hc : n ≤ c) (hs : n ≤ 4000) (w : World) (hr : Row .u8 w.heap.size w A bs) :
    Calls Try.prog 29 #[cliV h T, .slice A n c] w (CliRet (byR h T bs) w) := by
  have bC := blkN (heap_alloc_new w (.cells (cliL h T).toArray 45)) (.cells (cliL false zeroT).toArray 45)
  have bR := newN (w.alloc (.cells (cliL h T).toArray 45)) (.cells (cliL false zeroT).toArray 45) (w.heap.size + 1) (by simp)
  have L0 := ((Below.refl w.heap.size w).alloc (Nat.le_refl _) (.cells (cliL h T).toArray 45)).alloc (by simp) (.cells (cliL false zeroT).toArray 45)
  go_enter Try.func29, Try.ntmps29
  go_upto_region 1 with fail
  generalize (w.alloc (.cells (cliL h T).toArray 45)).alloc (.cells (cliL false zeroT).toArray 45) = W0 at *
  have hlen := tk_len bs
  obtain ⟨⟨x, y, rs, z⟩, hq⟩ : ∃ r, tkS bs = r := ⟨_, rfl⟩
  have KT := Lib.hid (hq ▸ sTake_any A n c bs hl hc (by omega) W0 ((hr.below L0).more L0.size))
  rw [hq] at hlen
  have HB := Lib.hid (show byR h T bs = if z = 0 then tkR h T x y rs else (h, T, false, z) by unfold byR; rw [hq])
  clear hr hl hc hq
  obtain ⟨n0, hn0⟩ : ∃ n0, rs.length = n0 := ⟨_, rfl⟩
  have HN := Lib.hid (And.intro hn0 (show n0 ≤ 4000000 by simp only at hlen; omega))
  clear hn0 hlen
  refine wp_scope_jumps 0 (fun a' w' => Below w.heap.size w w' ∧ CB w.heap.size h T w' ∧ CB (w.heap.size + 1) false zeroT w' ∧ ∃ E : Int, byR h T bs = (h, T, false, E) ∧ ∃ (u5 u6 u7 u9 u10 u11 u12 u13 u14 u15 u16 u17 u18 u19 u20 u21 u22 u23 : Value), a' = { tmps := #[cliV h T, .slice A n c, .pointer (some ⟨w.heap.size, 0, none⟩), undef, .pointer (some ⟨w.heap.size + 1, 0, none⟩), u5, u6, u7, .int .i64 E, u9, u10, u11, u12, u13, u14, u15, u16, u17, u18, u19, u20, u21, u22, u23], defers := [] }) (fun _ _ => 0) rfl ?first ?pass
  case pass =>
    rintro a' w' ⟨LL, hC, hR, E, hE, u5, u6, u7, u9, u10, u11, u12, u13, u14, u15, u16, u17, u18, u19, u20, u21, u22, u23, rfl⟩
    have l0 := ld_cli hC
    have s0 := st_cli hR h T
    have HS := Lib.hid (cb_full hR h T)
    have HX := Lib.hid (below_setCells (w.heap.size + 1) (by omega) (cliL h T) 0 w _ LL)
    have HE := Lib.hid hE
    clear LL hC hR hE bC bR L0
    go_wp2
    simp only [Exit.jump]
    refine bodyPost_ret (results_cli3 rfl _ _ (w.heap.size + 1) _ (0, 0) rfl HS.out (by simp [cliL_len])) rfl ⟨?_, HX.out⟩
    rw [HE.out]
    rfl
  case first =>
    go_wp2_with fail
    refine KT.out.mono ?_
    intro e w1 hE
    obtain ⟨S, cS, rfl, hS0, hSc, O1, m1⟩ := ShRet.slice HN.out.1 hE
    replace bC := bb bC m1
    replace bR := bb bR m1
    replace L0 := L0.trans (m1.mono L0.size)
    have hSR := SRow.of_own rowC_len (by decide) O1
    have hd := heap_alloc_new w1 (.cells #[.int .i64 0, .int .i64 0, .slice none 0 0] 29)
    obtain ⟨z0, z1, z2⟩ := sh_cells _ _ _ _ _ hd
    have f0 := sh_frozen hd 0
    have f1 := sh_frozen hd 1
    have f2 := sh_frozen hd 2
    have hX := shBox w1 x y S n0 cS
    have bC2 := blkN bC (.cells #[.int .i64 x, .int .i64 y, .slice S n0 cS] 29)
    have bR2 := blkN bR (.cells #[.int .i64 x, .int .i64 y, .slice S n0 cS] 29)
    have m2 := (Below.refl w1.heap.size w1).alloc (Nat.le_refl _) (.cells #[.int .i64 x, .int .i64 y, .slice S n0 cS] 29)
    have L2 := L0.trans (m2.mono L0.size)
    have hSR2 := hSR.below m2
    have HA := Lib.hid (And.intro bC2 (And.intro bR2 (And.intro L2 (And.intro (hSR2.more m2.size) hX))))
    clear bC bR L0 hd hX bC2 bR2 m2 L2 hSR hSR2 O1 m1 KT hE
    by_cases hz : z = 0
    rotate_left
    · have hz' : (z != 0) = true := by simpa using hz
      have HE := Lib.hid (show byR h T bs = (h, T, false, z) by rw [HB.out, if_neg hz])
      go_wp2
      go_step3
      exact ⟨rfl, HA.out.2.2.1, HA.out.1, HA.out.2.1, z, HE.out, _, _, _, _, _, _, _, _, _, _, _, _, _, _, _, _, _, _, rfl⟩
    subst hz
    replace HB := Lib.hid (show byR h T bs = tkR h T x y rs from HB.out)
    go_upto_region 3 with fail
    clear z0 z1 z2 f0 f1 f2
    obtain ⟨bC, bR, L0, hSR, hX⟩ := HA.out
    have l0 := ld_cli bC
    obtain ⟨q0, q1, q2⟩ := sh_cells _ _ _ _ _ hX
    have KT := Lib.hid (fun W (hW : SRow5 W.heap.size W S rs) => cTake_any h T x y S n0 cS rs HN.out.1 HN.out.2 W hW)
    generalize w1.alloc (.cells #[.int .i64 x, .int .i64 y, .slice S n0 cS] 29) = W2 at *
    generalize w1.heap.size = m at *
    have KT2 := Lib.hid (KT.out W2 hSR)
    clear KT HA hX hSR
    go_wp2_with fail
    refine KT2.out.mono ?_
    rintro e w3 ⟨rfl, m3⟩
    replace bR := bb bR m3
    replace L0 := L0.trans (m3.mono L0.size)
    generalize tkR h T x y rs = r at *
    obtain ⟨h', T', ok, e⟩ := r
    have s4 := st_cli bR h' T'
    have HS := Lib.hid (cb_full bR h' T')
    have HX := Lib.hid (below_setCells (w.heap.size + 1) (by omega) (cliL h' T') 0 w _ L0)
    clear bC bR L0 m3 KT2 l0 q0 q1 q2
    go_wp2
    simp only [Exit.jump]
    refine bodyPost_ret (results_cli3 rfl _ _ (w.heap.size + 1) _ (0, 0) rfl HS.out (by simp [cliL_len])) rfl ⟨?_, HX.out⟩
    rw [HB.out]
    rfl
end Go.Proofs.Ythgoopdekllanaa
