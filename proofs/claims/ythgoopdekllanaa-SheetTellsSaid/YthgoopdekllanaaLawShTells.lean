/- SheetTells, walked. -/
import Derived.Test.YthgoopdekllanaaShW
import Derived.Test.YthgoopdekllanaaSrP
import Derived.Test.YthgoopdekllanaaSrB
import Derived.Test.YthgoopdekllanaaShX
import Derived.Test.YthgoopdekllanaaTbL
import Derived.Deep.RegionHeldLaw
namespace Go.Proofs.Ythgoopdekllanaa
open Go.RowKit Go.Shelf
open SumM
attribute [local go_sem] Oper.semAt_some guard_undef
attribute [local go_sem ↓] zero_tab
attribute [local go_sem ↓] nm_ldT nm_stT

theorem in_appT {m : Int} {a b : List Int} (ha : In m a) (hb : In m b) : In m (a ++ b) := fun x hx => (List.mem_append.1 hx).elim (ha x) (hb x)
theorem spB_in (ba tv : Int) (rs : List SR) : In 255 (spB ba tv rs) := by
  unfold spB
  split
  · exact in_appT (in_appT (in_appT (be_in _ _) (be_in _ _)) (be_in _ _)) (fun x hx => by
      obtain ⟨r, _, h⟩ := List.mem_flatMap.1 hx
      exact in_appT (in_appT (in_appT (in_appT (be_in _ _) (be_in _ _)) (be_in _ _)) (be_in _ _)) (be_in _ _) x h)
  · exact fun x hx => absurd hx (by simp)
theorem smS_refl (ba tv : Int) (rs : List SR) : smS ba tv rs ba tv rs = true := by simp [smS]
theorem of_len (T : Nat → Int) : (ofS T).2.2.1.length ≤ 16 := by
  unfold ofS
  split
  · exact Nat.le_of_eq (allS_len T)
  · simp
theorem dl_len (T U : Nat → Int) : (dlS T U).2.2.1.length ≤ 16 := by
  unfold dlS
  split
  · exact chS_le T U
  · simp
theorem tk_len16 (bs : List Int) : (tkS bs).2.2.1.length ≤ 16 := by
  rw [tk_def]
  split
  · simp
  split
  · simp
  split
  · simp
  split
  · rename_i h
    exact (shOk_iff h).2.2.1
  · simp

set_option maxRecDepth 100000 in
set_option maxHeartbeats 16000000 in
theorem shTells_walk (T U : Nat → Int) (ba tv : Int) (sa : Option Addr) (sn sc : Nat) (rs : List SR) (ba' tv' : Int) (sa' : Option Addr) (sn' sc' : Nat) (rs' : List SR) (a : Option Addr) (len cap : Nat) (zz : List Int) (w : World) (_ : TabOk T) (_ : TabOk U) (h0 : IsSh w sa sn sc rs) (h1 : IsSh w sa' sn' sc' rs') (h2 : IsRow .u8 w a len cap zz) :
    Calls Try.prog 3 #[tabV T, tabV U, .agg #[.int .i64 ba, .int .i64 tv, .slice sa sn sc], .agg #[.int .i64 ba', .int .i64 tv', .slice sa' sn' sc'], .slice a len cap] w fun e w' => e = .returned (.bool true) ∧ Below w.heap.size w w' := by
  have WKS := Lib.hid (fun W => wakes_any W)
  have hsr := h0.row
  have hl := h0.hl
  have hcs := h0.hc.1
  have hsr' := h1.row
  have hl' := h1.hl
  have hcs' := h1.hc.1
  have hnil := h0.hn
  obtain ⟨hrz, hzl, _, hlz, hmz⟩ := h2.row
  generalize zz.take len = bs at *
  clear h0 h1 h2 hmz
  have bT := blkN (blkN (blkN (heap_alloc_new w (.cells (numL 65 T).toArray 26)) (.cells (numL 65 U).toArray 26)) (.cells #[.int .i64 ba, .int .i64 tv, .slice sa sn sc] 29)) (.cells #[.int .i64 ba', .int .i64 tv', .slice sa' sn' sc'] 29)
  have bU := blkN (blkN (newN (w.alloc (.cells (numL 65 T).toArray 26)) (.cells (numL 65 U).toArray 26) (w.heap.size + 1) (by simp)) (.cells #[.int .i64 ba, .int .i64 tv, .slice sa sn sc] 29)) (.cells #[.int .i64 ba', .int .i64 tv', .slice sa' sn' sc'] 29)
  have bS := blkN (newN ((w.alloc (.cells (numL 65 T).toArray 26)).alloc (.cells (numL 65 U).toArray 26)) (.cells #[.int .i64 ba, .int .i64 tv, .slice sa sn sc] 29) (w.heap.size + 2) (by simp)) (.cells #[.int .i64 ba', .int .i64 tv', .slice sa' sn' sc'] 29)
  have bO := newN (((w.alloc (.cells (numL 65 T).toArray 26)).alloc (.cells (numL 65 U).toArray 26)).alloc (.cells #[.int .i64 ba, .int .i64 tv, .slice sa sn sc] 29)) (.cells #[.int .i64 ba', .int .i64 tv', .slice sa' sn' sc'] 29) (w.heap.size + 3) (by simp)
  have L0 := ((((Below.refl w.heap.size w).alloc (Nat.le_refl _) (.cells (numL 65 T).toArray 26)).alloc (by simp) (.cells (numL 65 U).toArray 26)).alloc (by simp; omega) (.cells #[.int .i64 ba, .int .i64 tv, .slice sa sn sc] 29)).alloc (by simp; omega) (.cells #[.int .i64 ba', .int .i64 tv', .slice sa' sn' sc'] 29)
  go_enter Try.func3, Try.ntmps3
  go_upto_region 1 with fail
  generalize (((w.alloc (.cells (numL 65 T).toArray 26)).alloc (.cells (numL 65 U).toArray 26)).alloc (.cells #[.int .i64 ba, .int .i64 tv, .slice sa sn sc] 29)).alloc (.cells #[.int .i64 ba', .int .i64 tv', .slice sa' sn' sc'] 29) = W0 at *
  obtain ⟨q0, q1, q2⟩ := sh_cells _ _ _ _ _ bS
  obtain ⟨g0, hg0⟩ : ∃ g, decide ((40 : Int) < (sn : Int)) = g := ⟨_, rfl⟩
  have KG := Lib.hid (hg0 ▸ great_any ba tv sa sn sc W0)
  go_wp2_with fail
  refine KG.out.mono ?_
  rintro e wa ⟨rfl, m0⟩
  replace bT := bb bT m0
  replace bU := bb bU m0
  replace bS := bb bS m0
  replace bO := bb bO m0
  replace L0 := L0.trans (m0.mono L0.size)
  clear q0 q1 q2 m0 KG
  cases g0
  rotate_left
  · have HX := Lib.hid L0
    clear bT bU bS bO L0 hg0 hrz hsr hsr'
    go_wp2_with (go_at_call 10; (with_reducible refine (WKS.out _).mono ?_); rintro e w9 ⟨rfl, m9⟩)
    go_ret
    exact ⟨rfl, HX.out.trans (m9.mono HX.out.size)⟩
  have hs : sn ≤ 40 := by
    have := of_decide_eq_false hg0
    omega
  clear hg0
  obtain ⟨q0, q1, q2⟩ := sh_cells _ _ _ _ _ bO
  obtain ⟨g0, hg0⟩ : ∃ g, decide ((40 : Int) < (sn' : Int)) = g := ⟨_, rfl⟩
  have KG := Lib.hid (hg0 ▸ great_any ba' tv' sa' sn' sc' wa)
  go_wp2_with fail
  refine KG.out.mono ?_
  rintro e wb ⟨rfl, m0⟩
  replace bT := bb bT m0
  replace bU := bb bU m0
  replace bS := bb bS m0
  replace bO := bb bO m0
  replace L0 := L0.trans (m0.mono L0.size)
  clear q0 q1 q2 m0 KG
  cases g0
  rotate_left
  · have HX := Lib.hid L0
    clear bT bU bS bO L0 hg0 hrz hsr hsr'
    go_wp2_with (go_at_call 10; (with_reducible refine (WKS.out _).mono ?_); rintro e w9 ⟨rfl, m9⟩)
    go_ret
    exact ⟨rfl, HX.out.trans (m9.mono HX.out.size)⟩
  have hs' : sn' ≤ 40 := by
    have := of_decide_eq_false hg0
    omega
  clear hg0
  by_cases hbig : 1000 < len
  · have p1 : decide ((1000 : Int) < (len : Int)) = true := decide_eq_true (by omega)
    have HX := Lib.hid L0
    clear bT bU bS bO L0 hrz hsr hsr'
    go_wp2_with (go_at_call 10; (with_reducible refine (WKS.out _).mono ?_); rintro e w9 ⟨rfl, m9⟩)
    go_ret
    exact ⟨rfl, HX.out.trans (m9.mono HX.out.size)⟩
  have p1 : decide ((1000 : Int) < (len : Int)) = false := decide_eq_false (by omega)
  go_upto_region 3 with fail
  clear p1
  have e1 := of_len T
  have e2 := dl_len T U
  have e3 := tk_len16 bs
  obtain ⟨⟨x1, y1, l1, z1⟩, hr1⟩ : ∃ r, ofS T = r := ⟨_, rfl⟩
  obtain ⟨⟨x2, y2, l2, z2⟩, hr2⟩ : ∃ r, dlS T U = r := ⟨_, rfl⟩
  obtain ⟨⟨x3, y3, l3, z3⟩, hr3⟩ : ∃ r, tkS bs = r := ⟨_, rfl⟩
  rw [hr1] at e1
  rw [hr2] at e2
  rw [hr3] at e3
  simp only at e1 e2 e3
  have K1 := Lib.hid (fun W => hr1 ▸ sOf_any T W)
  have K2 := Lib.hid (fun W => hr1 ▸ r11Of_any T W)
  have K3 := Lib.hid (fun W => hr2 ▸ sDelta_any T U W)
  have K4 := Lib.hid (fun W => hr2 ▸ r11Delta_any T U W)
  have RS := Lib.hid (fun W (m : Below w.heap.size w W) => (hsr.below m).more m.size)
  have RO := Lib.hid (fun W (m : Below w.heap.size w W) => (hsr'.below m).more m.size)
  have K5 := Lib.hid (fun W (m : Below w.heap.size w W) => sPut_any ba tv sa sn sc rs hl (by omega) W (RS.out W m))
  have K6 := Lib.hid (fun W (m : Below w.heap.size w W) => r11Put_any ba tv sa sn sc rs hl (by omega) W (RS.out W m))
  have K7 := Lib.hid (fun W (m : Below w.heap.size w W) => hr3 ▸ sTake_any a len cap bs hzl hlz (by omega) W ((hrz.below m).more m.size))
  have K8 := Lib.hid (fun W (m : Below w.heap.size w W) => hr3 ▸ r11Take_any a len cap bs hzl hlz (by omega) W ((hrz.below m).more m.size))
  have HLS := Lib.hid (And.intro hl (And.intro hs (And.intro hcs (And.intro hl' (And.intro hs' (And.intro hcs' hnil))))))
  obtain ⟨n1, hn1⟩ : ∃ n, l1.length = n := ⟨_, rfl⟩
  obtain ⟨n2, hn2⟩ : ∃ n, l2.length = n := ⟨_, rfl⟩
  obtain ⟨n3, hn3⟩ : ∃ n, l3.length = n := ⟨_, rfl⟩
  rw [hn1] at e1
  rw [hn2] at e2
  rw [hn3] at e3
  have HN := Lib.hid (And.intro (And.intro hn1 e1) (And.intro (And.intro hn2 e2) (And.intro hn3 e3)))
  clear hr1 hr2 hr3 hsr hsr' hrz hl hl' hs hs' hcs hcs' hzl hlz hbig hnil e1 e2 e3 hn1 hn2 hn3
  have l0 := ld_tab bT
  go_wp2_with fail
  refine (K1.out _).mono ?_
  intro e u1 hE
  obtain ⟨Sb11, cb11, rfl, hnb11, hcb11, O1, m1⟩ := ShRet.slice HN.out.1.1 hE
  clear hE
  have rb11 := SRow.of_own rowC_len (by decide) O1
  have hd := heap_alloc_new u1 (.cells #[.int .i64 0, .int .i64 0, .slice none 0 0] 29)
  obtain ⟨z0, z1, z2⟩ := sh_cells _ _ _ _ _ hd
  have f0 := sh_frozen hd 0
  have f1 := sh_frozen hd 1
  have f2 := sh_frozen hd 2
  have m2 := (Below.refl u1.heap.size u1).alloc (Nat.le_refl _) (.cells #[.int .i64 x1, .int .i64 y1, .slice Sb11 n1 cb11] 29)
  replace rb11 := (rb11.below m2).more m2.size
  have b11 := heap_alloc_new u1 (.cells #[.int .i64 x1, .int .i64 y1, .slice Sb11 n1 cb11] 29)
  have m9 := m1.trans (m2.mono m1.size)
  replace bT := bb bT m9
  replace bU := bb bU m9
  replace bS := bb bS m9
  replace bO := bb bO m9
  replace L0 := L0.trans (m9.mono L0.size)
  clear hd O1 m1 m2 m9 l0
  have HCb11 := Lib.hid (And.intro hnb11 hcb11)
  clear hnb11 hcb11
  go_upto_region 4 with fail
  clear z0 z1 z2 f0 f1 f2
  generalize u1.alloc (.cells #[.int .i64 x1, .int .i64 y1, .slice Sb11 n1 cb11] 29) = X1 at *
  generalize u1.heap.size = pb11 at *
  have l0 := ld_tab bT
  go_wp2_with fail
  refine (K2.out _).mono ?_
  intro e u2 hE
  obtain ⟨Sb13, cb13, rfl, hnb13, hcb13, O1, m1⟩ := ShRet.slice HN.out.1.1 hE
  clear hE
  have rb13 := SRow.of_own rowC_len (by decide) O1
  have hd := heap_alloc_new u2 (.cells #[.int .i64 0, .int .i64 0, .slice none 0 0] 29)
  obtain ⟨z0, z1, z2⟩ := sh_cells _ _ _ _ _ hd
  have f0 := sh_frozen hd 0
  have f1 := sh_frozen hd 1
  have f2 := sh_frozen hd 2
  have m2 := (Below.refl u2.heap.size u2).alloc (Nat.le_refl _) (.cells #[.int .i64 x1, .int .i64 y1, .slice Sb13 n1 cb13] 29)
  replace rb13 := (rb13.below m2).more m2.size
  have b13 := heap_alloc_new u2 (.cells #[.int .i64 x1, .int .i64 y1, .slice Sb13 n1 cb13] 29)
  have m9 := m1.trans (m2.mono m1.size)
  replace bT := bb bT m9
  replace bU := bb bU m9
  replace bS := bb bS m9
  replace bO := bb bO m9
  replace b11 := bb b11 m9
  replace rb11 := (rb11.below m9).more m9.size
  replace L0 := L0.trans (m9.mono L0.size)
  clear hd O1 m1 m2 m9 l0
  have HCb13 := Lib.hid (And.intro hnb13 hcb13)
  clear hnb13 hcb13
  go_upto_region 5 with fail
  clear z0 z1 z2 f0 f1 f2
  generalize u2.alloc (.cells #[.int .i64 x1, .int .i64 y1, .slice Sb13 n1 cb13] 29) = X2 at *
  generalize u2.heap.size = pb13 at *
  clear K1 K2
  have l0 := ld_tab bT
  have l1 := ld_tab bU
  go_wp2_with fail
  refine (K3.out _).mono ?_
  intro e u3 hE
  obtain ⟨Sb15, cb15, rfl, hnb15, hcb15, O1, m1⟩ := ShRet.slice HN.out.2.1.1 hE
  clear hE
  have rb15 := SRow.of_own rowC_len (by decide) O1
  have hd := heap_alloc_new u3 (.cells #[.int .i64 0, .int .i64 0, .slice none 0 0] 29)
  obtain ⟨z0, z1, z2⟩ := sh_cells _ _ _ _ _ hd
  have f0 := sh_frozen hd 0
  have f1 := sh_frozen hd 1
  have f2 := sh_frozen hd 2
  have m2 := (Below.refl u3.heap.size u3).alloc (Nat.le_refl _) (.cells #[.int .i64 x2, .int .i64 y2, .slice Sb15 n2 cb15] 29)
  replace rb15 := (rb15.below m2).more m2.size
  have b15 := heap_alloc_new u3 (.cells #[.int .i64 x2, .int .i64 y2, .slice Sb15 n2 cb15] 29)
  have m9 := m1.trans (m2.mono m1.size)
  replace bT := bb bT m9
  replace bU := bb bU m9
  replace bS := bb bS m9
  replace bO := bb bO m9
  replace b11 := bb b11 m9
  replace b13 := bb b13 m9
  replace rb11 := (rb11.below m9).more m9.size
  replace rb13 := (rb13.below m9).more m9.size
  replace L0 := L0.trans (m9.mono L0.size)
  clear hd O1 m1 m2 m9 l0 l1
  have HCb15 := Lib.hid (And.intro hnb15 hcb15)
  clear hnb15 hcb15
  go_upto_region 6 with fail
  clear z0 z1 z2 f0 f1 f2
  generalize u3.alloc (.cells #[.int .i64 x2, .int .i64 y2, .slice Sb15 n2 cb15] 29) = X3 at *
  generalize u3.heap.size = pb15 at *
  have l0 := ld_tab bT
  have l1 := ld_tab bU
  go_wp2_with fail
  refine (K4.out _).mono ?_
  intro e u4 hE
  obtain ⟨Sb17, cb17, rfl, hnb17, hcb17, O1, m1⟩ := ShRet.slice HN.out.2.1.1 hE
  clear hE
  have rb17 := SRow.of_own rowC_len (by decide) O1
  have hd := heap_alloc_new u4 (.cells #[.int .i64 0, .int .i64 0, .slice none 0 0] 29)
  obtain ⟨z0, z1, z2⟩ := sh_cells _ _ _ _ _ hd
  have f0 := sh_frozen hd 0
  have f1 := sh_frozen hd 1
  have f2 := sh_frozen hd 2
  have m2 := (Below.refl u4.heap.size u4).alloc (Nat.le_refl _) (.cells #[.int .i64 x2, .int .i64 y2, .slice Sb17 n2 cb17] 29)
  replace rb17 := (rb17.below m2).more m2.size
  have b17 := heap_alloc_new u4 (.cells #[.int .i64 x2, .int .i64 y2, .slice Sb17 n2 cb17] 29)
  have m9 := m1.trans (m2.mono m1.size)
  replace bT := bb bT m9
  replace bU := bb bU m9
  replace bS := bb bS m9
  replace bO := bb bO m9
  replace b11 := bb b11 m9
  replace b13 := bb b13 m9
  replace b15 := bb b15 m9
  replace rb11 := (rb11.below m9).more m9.size
  replace rb13 := (rb13.below m9).more m9.size
  replace rb15 := (rb15.below m9).more m9.size
  replace L0 := L0.trans (m9.mono L0.size)
  clear hd O1 m1 m2 m9 l0 l1
  have HCb17 := Lib.hid (And.intro hnb17 hcb17)
  clear hnb17 hcb17
  go_upto_region 7 with fail
  clear z0 z1 z2 f0 f1 f2
  generalize u4.alloc (.cells #[.int .i64 x2, .int .i64 y2, .slice Sb17 n2 cb17] 29) = X4 at *
  generalize u4.heap.size = pb17 at *
  clear K3 K4 bT bU
  obtain ⟨q0, q1, q2⟩ := sh_cells _ _ _ _ _ bS
  go_wp2_with fail
  refine (K5.out _ L0).mono ?_
  rintro e X5 ⟨v19, rfl, O19, m9⟩
  replace bS := bb bS m9
  replace bO := bb bO m9
  replace b11 := bb b11 m9
  replace b13 := bb b13 m9
  replace b15 := bb b15 m9
  replace b17 := bb b17 m9
  replace rb11 := (rb11.below m9).more m9.size
  replace rb13 := (rb13.below m9).more m9.size
  replace rb15 := (rb15.below m9).more m9.size
  replace rb17 := (rb17.below m9).more m9.size
  replace L0 := L0.trans (m9.mono L0.size)
  clear q0 q1 q2 m9
  obtain ⟨A19, c19, rfl, -, -, -⟩ := ownS_slice O19
  go_upto_region 8 with fail
  obtain ⟨q0, q1, q2⟩ := sh_cells _ _ _ _ _ bS
  go_wp2_with fail
  refine (K6.out _ L0).mono ?_
  rintro e X6 ⟨v21, rfl, O21, m9⟩
  replace bS := bb bS m9
  replace bO := bb bO m9
  replace b11 := bb b11 m9
  replace b13 := bb b13 m9
  replace b15 := bb b15 m9
  replace b17 := bb b17 m9
  replace rb11 := (rb11.below m9).more m9.size
  replace rb13 := (rb13.below m9).more m9.size
  replace rb15 := (rb15.below m9).more m9.size
  replace rb17 := (rb17.below m9).more m9.size
  replace O19 := ownS_below O19 m9
  replace L0 := L0.trans (m9.mono L0.size)
  clear q0 q1 q2 m9
  obtain ⟨A21, c21, rfl, -, -, -⟩ := ownS_slice O21
  go_upto_region 9 with fail
  clear K5 K6
  go_wp2_with fail
  refine (K7.out _ L0).mono ?_
  intro e u7 hE
  obtain ⟨Sb23, cb23, rfl, hnb23, hcb23, O1, m1⟩ := ShRet.slice HN.out.2.2.1 hE
  clear hE
  have rb23 := SRow.of_own rowC_len (by decide) O1
  have hd := heap_alloc_new u7 (.cells #[.int .i64 0, .int .i64 0, .slice none 0 0] 29)
  obtain ⟨z0, z1, z2⟩ := sh_cells _ _ _ _ _ hd
  have f0 := sh_frozen hd 0
  have f1 := sh_frozen hd 1
  have f2 := sh_frozen hd 2
  have m2 := (Below.refl u7.heap.size u7).alloc (Nat.le_refl _) (.cells #[.int .i64 x3, .int .i64 y3, .slice Sb23 n3 cb23] 29)
  replace rb23 := (rb23.below m2).more m2.size
  have b23 := heap_alloc_new u7 (.cells #[.int .i64 x3, .int .i64 y3, .slice Sb23 n3 cb23] 29)
  have m9 := m1.trans (m2.mono m1.size)
  replace bS := bb bS m9
  replace bO := bb bO m9
  replace b11 := bb b11 m9
  replace b13 := bb b13 m9
  replace b15 := bb b15 m9
  replace b17 := bb b17 m9
  replace rb11 := (rb11.below m9).more m9.size
  replace rb13 := (rb13.below m9).more m9.size
  replace rb15 := (rb15.below m9).more m9.size
  replace rb17 := (rb17.below m9).more m9.size
  replace O19 := ownS_below O19 m9
  replace O21 := ownS_below O21 m9
  replace L0 := L0.trans (m9.mono L0.size)
  clear hd O1 m1 m2 m9
  have HCb23 := Lib.hid (And.intro hnb23 hcb23)
  clear hnb23 hcb23
  go_upto_region 10 with fail
  clear z0 z1 z2 f0 f1 f2
  generalize u7.alloc (.cells #[.int .i64 x3, .int .i64 y3, .slice Sb23 n3 cb23] 29) = X7 at *
  generalize u7.heap.size = pb23 at *
  go_wp2_with fail
  refine (K8.out _ L0).mono ?_
  intro e u8 hE
  obtain ⟨Sb25, cb25, rfl, hnb25, hcb25, O1, m1⟩ := ShRet.slice HN.out.2.2.1 hE
  clear hE
  have rb25 := SRow.of_own rowC_len (by decide) O1
  have hd := heap_alloc_new u8 (.cells #[.int .i64 0, .int .i64 0, .slice none 0 0] 29)
  obtain ⟨z0, z1, z2⟩ := sh_cells _ _ _ _ _ hd
  have f0 := sh_frozen hd 0
  have f1 := sh_frozen hd 1
  have f2 := sh_frozen hd 2
  have m2 := (Below.refl u8.heap.size u8).alloc (Nat.le_refl _) (.cells #[.int .i64 x3, .int .i64 y3, .slice Sb25 n3 cb25] 29)
  replace rb25 := (rb25.below m2).more m2.size
  have b25 := heap_alloc_new u8 (.cells #[.int .i64 x3, .int .i64 y3, .slice Sb25 n3 cb25] 29)
  have m9 := m1.trans (m2.mono m1.size)
  replace bS := bb bS m9
  replace bO := bb bO m9
  replace b11 := bb b11 m9
  replace b13 := bb b13 m9
  replace b15 := bb b15 m9
  replace b17 := bb b17 m9
  replace b23 := bb b23 m9
  replace rb11 := (rb11.below m9).more m9.size
  replace rb13 := (rb13.below m9).more m9.size
  replace rb15 := (rb15.below m9).more m9.size
  replace rb17 := (rb17.below m9).more m9.size
  replace rb23 := (rb23.below m9).more m9.size
  replace O19 := ownS_below O19 m9
  replace O21 := ownS_below O21 m9
  replace L0 := L0.trans (m9.mono L0.size)
  clear hd O1 m1 m2 m9
  have HCb25 := Lib.hid (And.intro hnb25 hcb25)
  clear hnb25 hcb25
  go_upto_region 11 with fail
  clear z0 z1 z2 f0 f1 f2
  generalize u8.alloc (.cells #[.int .i64 x3, .int .i64 y3, .slice Sb25 n3 cb25] 29) = X8 at *
  generalize u8.heap.size = pb25 at *
  clear K7 K8
  obtain ⟨q0, q1, q2⟩ := sh_cells _ _ _ _ _ b11
  obtain ⟨r0, r1, r2⟩ := sh_cells _ _ _ _ _ b13
  have KS := Lib.hid (smS_refl x1 y1 l1 ▸ r11Same_any x1 y1 Sb11 n1 cb11 x1 y1 Sb13 n1 cb13 l1 l1 HN.out.1.1 (by have := HN.out.1.2; omega) HN.out.1.1 (by have := HN.out.1.2; omega) X8 rb11 rb13)
  go_wp2_with fail
  refine KS.out.mono ?_
  rintro e Y1 ⟨rfl, m9⟩
  replace bS := bb bS m9
  replace bO := bb bO m9
  replace b11 := bb b11 m9
  replace b13 := bb b13 m9
  replace b15 := bb b15 m9
  replace b17 := bb b17 m9
  replace b23 := bb b23 m9
  replace b25 := bb b25 m9
  replace rb11 := (rb11.below m9).more m9.size
  replace rb13 := (rb13.below m9).more m9.size
  replace rb15 := (rb15.below m9).more m9.size
  replace rb17 := (rb17.below m9).more m9.size
  replace rb23 := (rb23.below m9).more m9.size
  replace rb25 := (rb25.below m9).more m9.size
  replace O19 := ownS_below O19 m9
  replace O21 := ownS_below O21 m9
  replace L0 := L0.trans (m9.mono L0.size)
  clear q0 q1 q2 r0 r1 r2 m9 KS
  obtain ⟨q0, q1, q2⟩ := sh_cells _ _ _ _ _ b15
  obtain ⟨r0, r1, r2⟩ := sh_cells _ _ _ _ _ b17
  have KS := Lib.hid (smS_refl x2 y2 l2 ▸ r11Same_any x2 y2 Sb15 n2 cb15 x2 y2 Sb17 n2 cb17 l2 l2 HN.out.2.1.1 (by have := HN.out.2.1.2; omega) HN.out.2.1.1 (by have := HN.out.2.1.2; omega) Y1 rb15 rb17)
  go_wp2_with fail
  refine KS.out.mono ?_
  rintro e Y2 ⟨rfl, m9⟩
  replace bS := bb bS m9
  replace bO := bb bO m9
  replace b11 := bb b11 m9
  replace b13 := bb b13 m9
  replace b15 := bb b15 m9
  replace b17 := bb b17 m9
  replace b23 := bb b23 m9
  replace b25 := bb b25 m9
  replace rb11 := (rb11.below m9).more m9.size
  replace rb13 := (rb13.below m9).more m9.size
  replace rb15 := (rb15.below m9).more m9.size
  replace rb17 := (rb17.below m9).more m9.size
  replace rb23 := (rb23.below m9).more m9.size
  replace rb25 := (rb25.below m9).more m9.size
  replace O19 := ownS_below O19 m9
  replace O21 := ownS_below O21 m9
  replace L0 := L0.trans (m9.mono L0.size)
  clear q0 q1 q2 r0 r1 r2 m9 KS
  have R19 := Row.of_own O19 (fun x hx => wf_u8.2 (spB_in ba tv rs x hx))
  have R21 := Row.of_own O21 (fun x hx => wf_u8.2 (spB_in ba tv rs x hx))
  have KS := Lib.hid (eqB_true.2 (rfl : spB ba tv rs = spB ba tv rs) ▸ law11Same_any A19 _ c19 (spB ba tv rs) A21 _ c21 (spB ba tv rs) _ _ Y2 R19 rfl R21 rfl)
  clear R19 R21
  go_wp2_with fail
  refine KS.out.mono ?_
  rintro e y9 ⟨rfl, rfl⟩
  clear KS
  obtain ⟨q0, q1, q2⟩ := sh_cells _ _ _ _ _ b23
  obtain ⟨r0, r1, r2⟩ := sh_cells _ _ _ _ _ b25
  have KS := Lib.hid (smS_refl x3 y3 l3 ▸ r11Same_any x3 y3 Sb23 n3 cb23 x3 y3 Sb25 n3 cb25 l3 l3 HN.out.2.2.1 (by have := HN.out.2.2.2; omega) HN.out.2.2.1 (by have := HN.out.2.2.2; omega) Y2 rb23 rb25)
  go_wp2_with fail
  refine KS.out.mono ?_
  rintro e Y3 ⟨rfl, m9⟩
  replace bS := bb bS m9
  replace bO := bb bO m9
  replace b11 := bb b11 m9
  replace b13 := bb b13 m9
  replace b15 := bb b15 m9
  replace b17 := bb b17 m9
  replace b23 := bb b23 m9
  replace b25 := bb b25 m9
  replace rb11 := (rb11.below m9).more m9.size
  replace rb13 := (rb13.below m9).more m9.size
  replace rb15 := (rb15.below m9).more m9.size
  replace rb17 := (rb17.below m9).more m9.size
  replace rb23 := (rb23.below m9).more m9.size
  replace rb25 := (rb25.below m9).more m9.size
  replace O19 := ownS_below O19 m9
  replace O21 := ownS_below O21 m9
  replace L0 := L0.trans (m9.mono L0.size)
  clear q0 q1 q2 r0 r1 r2 m9 KS
  clear b11 b13 b15 b17 b23 b25 rb11 rb13 rb15 rb17 rb23 rb25 O19 O21 HN
  have nc := (Below.refl Y3.heap.size Y3).drew
  have CB2 := Lib.hid (fun W (m : Below Y3.heap.size Y3 W) => L0.trans (m.mono L0.size))
  have CS := Lib.hid (fun W (m : Below Y3.heap.size Y3 W) => And.intro (sh_cells _ _ _ _ _ (bb bS m)) (sh_cells _ _ _ _ _ (bb bO m)))
  have HL := Lib.hid L0
  clear bS bO L0
  obtain ⟨g1, hg1⟩ : ∃ g, shOk ba tv rs = g := ⟨_, rfl⟩
  obtain ⟨g2, hg2⟩ : ∃ g, smS ba tv rs ba' tv' rs' = g := ⟨_, rfl⟩
  have KA := Lib.hid (fun W (m : Below w.heap.size w W) => hg1 ▸ sRight_any ba tv sa sn sc rs HLS.out.1 (by have := HLS.out; omega) W (RS.out W m))
  have KB := Lib.hid (fun W (m : Below w.heap.size w W) => hg1 ▸ r11Right_any ba tv sa sn sc rs HLS.out.1 (by have := HLS.out; omega) W (RS.out W m))
  have KC := Lib.hid (fun W (m : Below w.heap.size w W) => hg2 ▸ sSame_any ba tv sa sn sc ba' tv' sa' sn' sc' rs rs' HLS.out.1 (by have := HLS.out; omega) HLS.out.2.2.2.1 HLS.out.2.2.1 HLS.out.2.2.2.2.2.1 W (RS.out W m) (RO.out W m))
  have KD := Lib.hid (fun W (m : Below w.heap.size w W) => hg2 ▸ r11Same_any ba tv sa sn sc ba' tv' sa' sn' sc' rs rs' HLS.out.1 (by have := HLS.out; omega) HLS.out.2.2.2.1 (by have := HLS.out; omega) W (RS.out W m) (RO.out W m))
  have KE := Lib.hid (fun W (m : Below w.heap.size w W) => sOwn_any ba tv sa sn sc rs HLS.out.1 (by have := HLS.out; omega) HLS.out.2.2.2.2.2.2 W (RS.out W m))
  have KF := Lib.hid (fun A c W (h : SRow5 W.heap.size W A rs) (m : Below w.heap.size w W) => smS_refl ba tv rs ▸ r11Same_any ba tv A rs.length c ba tv sa sn sc rs rs rfl (by have := HLS.out; omega) HLS.out.1 (by have := HLS.out; omega) W h (RS.out W m))
  clear hg1 hg2
  go_upto_region 13 with fail
  refine wp_region_held_drew (S := fun W => (W.cell? ⟨w.heap.size + 2, 0, none⟩ = some (.int .i64 ba) ∧ W.cell? ⟨w.heap.size + 2, 1, none⟩ = some (.int .i64 tv) ∧ W.cell? ⟨w.heap.size + 2, 2, none⟩ = some (.slice sa sn sc)) ∧ W.cell? ⟨w.heap.size + 3, 0, none⟩ = some (.int .i64 ba') ∧ W.cell? ⟨w.heap.size + 3, 1, none⟩ = some (.int .i64 tv') ∧ W.cell? ⟨w.heap.size + 3, 2, none⟩ = some (.slice sa' sn' sc')) (by kernel_rfl) (CS.out _ nc) (fun hHeld => ?_)
  refine wpAnyH_take (i := 0) (oi := { dst := some 123, op := Op.load 29 (Operand.tmp 7), type := 29, pos := "law.go:62", after := #[], guard := none }) (v := ?_) rfl (by kernel_rfl) (by kernel_rfl) (by kernel_rfl) (fun _ _ _ h => h) (Or.inl ⟨by rfl, ?_⟩) (by assumption) ?_
  rotate_left
  · intro w hSw
    (try dsimp only at hSw)
    first | (go_simp; done) | (go_simp; with_reducible rfl)
  (try simp only [Act.put, List.setIfInBounds_toArray, List.set_cons_zero, List.set_cons_succ])
  refine wpAnyH_take (i := 2) (oi := { dst := some 125, op := Op.load 29 (Operand.tmp 7), type := 29, pos := "law.go:62", after := #[], guard := none }) (v := ?_) rfl (by kernel_rfl) (by kernel_rfl) (by kernel_rfl) (fun _ _ _ h => h) (Or.inl ⟨by rfl, ?_⟩) (by assumption) ?_
  rotate_left
  · intro w hSw
    (try dsimp only at hSw)
    first | (go_simp; done) | (go_simp; with_reducible rfl)
  (try simp only [Act.put, List.setIfInBounds_toArray, List.set_cons_zero, List.set_cons_succ])
  refine wpAnyH_ready (rs := [1]) (by kernel_rfl) (by simp) ?_
  refine AllReadyH.cons (o := { dst := some 124, op := Op.call { callee := Callee.value (Operand.func 21), args := #[Operand.tmp 123], argTypes := #[29] }, type := 4, pos := "law.go:62", after := #[{ on := 0, ground := Ground.data }], guard := none }) rfl (fun K hK => ?_) AllReadyH.nil
  go_simp
  refine (KA.out _ (CB2.out _ nc)).mono ?_
  rintro e wx ⟨rfl, jx⟩
  replace nc := nc.trans (jx.mono nc.size)
  clear jx
  refine hK.out _ _ (CS.out _ nc) (fun hHeld => ?_)
  clear hK K
  (try simp only [Act.put, List.setIfInBounds_toArray, List.set_cons_zero, List.set_cons_succ])
  refine wpAnyH_ready (rs := [3]) (by kernel_rfl) (by simp) ?_
  refine AllReadyH.cons (o := { dst := some 126, op := Op.call { callee := Callee.value (Operand.func 22), args := #[Operand.tmp 125], argTypes := #[29] }, type := 4, pos := "law.go:62", after := #[{ on := 2, ground := Ground.data }, { on := 1, ground := Ground.chain }], guard := none }) rfl (fun K hK => ?_) AllReadyH.nil
  go_simp
  refine (KB.out _ (CB2.out _ nc)).mono ?_
  rintro e wx ⟨rfl, jx⟩
  replace nc := nc.trans (jx.mono nc.size)
  clear jx
  refine hK.out _ _ (CS.out _ nc) (fun hHeld => ?_)
  clear hK K
  (try simp only [Act.put, List.setIfInBounds_toArray, List.set_cons_zero, List.set_cons_succ])
  refine wpAnyH_take (i := 4) (oi := { dst := some 127, op := Op.binOp BinOp.eql 4 (Operand.tmp 124) (Operand.tmp 126) 4, type := 4, pos := "law.go:62", after := #[{ on := 1, ground := Ground.data }, { on := 3, ground := Ground.data }], guard := none }) (v := ?_) rfl (by kernel_rfl) (by kernel_rfl) (by kernel_rfl) (fun _ _ _ h => h) (Or.inl ⟨by rfl, ?_⟩) (by assumption) ?_
  rotate_left
  · intro w hSw
    (try dsimp only at hSw)
    first | (go_simp; done) | (go_simp; with_reducible rfl)
  (try simp only [Act.put, List.setIfInBounds_toArray, List.set_cons_zero, List.set_cons_succ])
  refine wpAnyH_take (i := 5) (oi := { dst := some 128, op := Op.move (Operand.tmp 127), type := 4, pos := "law.go:62", after := #[{ on := 4, ground := Ground.data }, { on := 3, ground := Ground.chain }], guard := none }) (v := ?_) rfl (by kernel_rfl) (by kernel_rfl) (by kernel_rfl) (fun _ _ _ h => h) (Or.inl ⟨by rfl, ?_⟩) (by assumption) ?_
  rotate_left
  · intro w hSw
    (try dsimp only at hSw)
    first | (go_simp; done) | (go_simp; with_reducible rfl)
  (try simp only [Act.put, List.setIfInBounds_toArray, List.set_cons_zero, List.set_cons_succ])
  refine wpAnyH_take (i := 6) (oi := { dst := some 129, op := Op.load 29 (Operand.tmp 7), type := 29, pos := "law.go:62", after := #[{ on := 5, ground := Ground.guard }], guard := some (5, true) }) (v := ?_) rfl (by kernel_rfl) (by kernel_rfl) (by kernel_rfl) (fun _ _ _ h => h) (Or.inl ⟨by rfl, ?_⟩) (by assumption) ?_
  rotate_left
  · intro w hSw
    (try dsimp only at hSw)
    first | (go_simp; done) | (go_simp; with_reducible rfl)
  (try simp only [Act.put, List.setIfInBounds_toArray, List.set_cons_zero, List.set_cons_succ])
  refine wpAnyH_take (i := 7) (oi := { dst := some 130, op := Op.load 29 (Operand.tmp 8), type := 29, pos := "law.go:62", after := #[{ on := 5, ground := Ground.guard }], guard := some (5, true) }) (v := ?_) rfl (by kernel_rfl) (by kernel_rfl) (by kernel_rfl) (fun _ _ _ h => h) (Or.inl ⟨by rfl, ?_⟩) (by assumption) ?_
  rotate_left
  · intro w hSw
    (try dsimp only at hSw)
    first | (go_simp; done) | (go_simp; with_reducible rfl)
  (try simp only [Act.put, List.setIfInBounds_toArray, List.set_cons_zero, List.set_cons_succ])
  refine wpAnyH_take (i := 9) (oi := { dst := some 132, op := Op.load 29 (Operand.tmp 7), type := 29, pos := "law.go:62", after := #[{ on := 5, ground := Ground.guard }], guard := some (5, true) }) (v := ?_) rfl (by kernel_rfl) (by kernel_rfl) (by kernel_rfl) (fun _ _ _ h => h) (Or.inl ⟨by rfl, ?_⟩) (by assumption) ?_
  rotate_left
  · intro w hSw
    (try dsimp only at hSw)
    first | (go_simp; done) | (go_simp; with_reducible rfl)
  (try simp only [Act.put, List.setIfInBounds_toArray, List.set_cons_zero, List.set_cons_succ])
  refine wpAnyH_take (i := 10) (oi := { dst := some 133, op := Op.load 29 (Operand.tmp 8), type := 29, pos := "law.go:62", after := #[{ on := 5, ground := Ground.guard }], guard := some (5, true) }) (v := ?_) rfl (by kernel_rfl) (by kernel_rfl) (by kernel_rfl) (fun _ _ _ h => h) (Or.inl ⟨by rfl, ?_⟩) (by assumption) ?_
  rotate_left
  · intro w hSw
    (try dsimp only at hSw)
    first | (go_simp; done) | (go_simp; with_reducible rfl)
  (try simp only [Act.put, List.setIfInBounds_toArray, List.set_cons_zero, List.set_cons_succ])
  refine wpAnyH_ready (rs := [8]) (by kernel_rfl) (by simp) ?_
  refine AllReadyH.cons (o := { dst := some 131, op := Op.call { callee := Callee.value (Operand.func 23), args := #[Operand.tmp 129, Operand.tmp 130], argTypes := #[29, 29] }, type := 4, pos := "law.go:62", after := #[{ on := 6, ground := Ground.data }, { on := 7, ground := Ground.data }, { on := 5, ground := Ground.chain }, { on := 5, ground := Ground.guard }], guard := some (5, true) }) rfl (fun K hK => ?_) AllReadyH.nil
  go_simp
  refine (KC.out _ (CB2.out _ nc)).mono ?_
  rintro e wx ⟨rfl, jx⟩
  replace nc := nc.trans (jx.mono nc.size)
  clear jx
  refine hK.out _ _ (CS.out _ nc) (fun hHeld => ?_)
  clear hK K
  (try simp only [Act.put, List.setIfInBounds_toArray, List.set_cons_zero, List.set_cons_succ])
  refine wpAnyH_ready (rs := [11]) (by kernel_rfl) (by simp) ?_
  refine AllReadyH.cons (o := { dst := some 134, op := Op.call { callee := Callee.value (Operand.func 19), args := #[Operand.tmp 132, Operand.tmp 133], argTypes := #[29, 29] }, type := 4, pos := "law.go:62", after := #[{ on := 9, ground := Ground.data }, { on := 10, ground := Ground.data }, { on := 8, ground := Ground.chain }, { on := 5, ground := Ground.guard }], guard := some (5, true) }) rfl (fun K hK => ?_) AllReadyH.nil
  go_simp
  refine (KD.out _ (CB2.out _ nc)).mono ?_
  rintro e wx ⟨rfl, jx⟩
  replace nc := nc.trans (jx.mono nc.size)
  clear jx
  refine hK.out _ _ (CS.out _ nc) (fun hHeld => ?_)
  clear hK K
  (try simp only [Act.put, List.setIfInBounds_toArray, List.set_cons_zero, List.set_cons_succ])
  refine wpAnyH_take (i := 12) (oi := { dst := some 135, op := Op.binOp BinOp.eql 4 (Operand.tmp 131) (Operand.tmp 134) 4, type := 4, pos := "law.go:62", after := #[{ on := 8, ground := Ground.data }, { on := 11, ground := Ground.data }, { on := 5, ground := Ground.guard }], guard := some (5, true) }) (v := ?_) rfl (by kernel_rfl) (by kernel_rfl) (by kernel_rfl) (fun _ _ _ h => h) (Or.inl ⟨by rfl, ?_⟩) (by assumption) ?_
  rotate_left
  · intro w hSw
    (try dsimp only at hSw)
    first | (go_simp; done) | (go_simp; with_reducible rfl)
  (try simp only [Act.put, List.setIfInBounds_toArray, List.set_cons_zero, List.set_cons_succ])
  refine wpAnyH_take (i := 13) (oi := { dst := some 136, op := Op.pick (Operand.tmp 128) (Operand.tmp 135) (Operand.const (Value.bool false)), type := 4, pos := "law.go:62", after := #[{ on := 5, ground := Ground.data }, { on := 12, ground := Ground.data }], guard := none }) (v := ?_) rfl (by kernel_rfl) (by kernel_rfl) (by kernel_rfl) (fun _ _ _ h => h) (Or.inl ⟨by rfl, ?_⟩) (by assumption) ?_
  rotate_left
  · intro w hSw
    (try dsimp only at hSw)
    first | (go_simp; done) | (go_simp; with_reducible rfl)
  (try simp only [Act.put, List.setIfInBounds_toArray, List.set_cons_zero, List.set_cons_succ])
  refine wpAnyH_take (i := 14) (oi := { dst := some 137, op := Op.move (Operand.tmp 136), type := 4, pos := "law.go:62", after := #[{ on := 13, ground := Ground.data }, { on := 11, ground := Ground.chain }], guard := none }) (v := ?_) rfl (by kernel_rfl) (by kernel_rfl) (by kernel_rfl) (fun _ _ _ h => h) (Or.inl ⟨by rfl, ?_⟩) (by assumption) ?_
  rotate_left
  · intro w hSw
    (try dsimp only at hSw)
    first | (go_simp; done) | (go_simp; with_reducible rfl)
  (try simp only [Act.put, List.setIfInBounds_toArray, List.set_cons_zero, List.set_cons_succ])
  refine wpAnyH_take (i := 15) (oi := { dst := some 138, op := Op.load 29 (Operand.tmp 7), type := 29, pos := "law.go:62", after := #[{ on := 14, ground := Ground.guard }], guard := some (14, true) }) (v := ?_) rfl (by kernel_rfl) (by kernel_rfl) (by kernel_rfl) (fun _ _ _ h => h) (Or.inl ⟨by rfl, ?_⟩) (by assumption) ?_
  rotate_left
  · intro w hSw
    (try dsimp only at hSw)
    first | (go_simp; done) | (go_simp; with_reducible rfl)
  (try simp only [Act.put, List.setIfInBounds_toArray, List.set_cons_zero, List.set_cons_succ])
  refine wpAnyH_take (i := 17) (oi := { dst := some 140, op := Op.load 29 (Operand.tmp 7), type := 29, pos := "law.go:62", after := #[{ on := 14, ground := Ground.guard }], guard := some (14, true) }) (v := ?_) rfl (by kernel_rfl) (by kernel_rfl) (by kernel_rfl) (fun _ _ _ h => h) (Or.inl ⟨by rfl, ?_⟩) (by assumption) ?_
  rotate_left
  · intro w hSw
    (try dsimp only at hSw)
    first | (go_simp; done) | (go_simp; with_reducible rfl)
  (try simp only [Act.put, List.setIfInBounds_toArray, List.set_cons_zero, List.set_cons_succ])
  refine wpAnyH_ready (rs := [16]) (by kernel_rfl) (by simp) ?_
  refine AllReadyH.cons (o := { dst := some 139, op := Op.call { callee := Callee.value (Operand.func 24), args := #[Operand.tmp 138], argTypes := #[29] }, type := 29, pos := "law.go:62", after := #[{ on := 15, ground := Ground.data }, { on := 14, ground := Ground.chain }, { on := 14, ground := Ground.guard }], guard := some (14, true) }) rfl (fun K hK => ?_) AllReadyH.nil
  go_simp
  refine (KE.out _ (CB2.out _ nc)).mono ?_
  rintro e wx ⟨vo, rfl, OO, jx⟩
  obtain ⟨Ao, co, rfl, -, -, -⟩ := ownS_slice OO
  have RR := SRow.of_own rowC_len (by decide) OO
  replace nc := nc.trans (jx.mono nc.size)
  clear jx OO
  refine hK.out _ _ (CS.out _ nc) (fun hHeld => ?_)
  clear hK K
  (try simp only [Act.put, List.setIfInBounds_toArray, List.set_cons_zero, List.set_cons_succ])
  refine wpAnyH_ready (rs := [18]) (by kernel_rfl) (by simp) ?_
  refine AllReadyH.cons (o := { dst := some 141, op := Op.call { callee := Callee.value (Operand.func 19), args := #[Operand.tmp 139, Operand.tmp 140], argTypes := #[29, 29] }, type := 4, pos := "law.go:62", after := #[{ on := 16, ground := Ground.data }, { on := 17, ground := Ground.data }, { on := 16, ground := Ground.chain }, { on := 14, ground := Ground.guard }], guard := some (14, true) }) rfl (fun K hK => ?_) AllReadyH.nil
  go_simp
  refine (KF.out _ _ _ RR (CB2.out _ nc)).mono ?_
  rintro e wx ⟨rfl, jx⟩
  replace nc := nc.trans (jx.mono nc.size)
  clear jx
  clear RR
  refine hK.out _ _ (CS.out _ nc) (fun hHeld => ?_)
  clear hK K
  (try simp only [Act.put, List.setIfInBounds_toArray, List.set_cons_zero, List.set_cons_succ])
  refine wpAnyH_take (i := 19) (oi := { dst := some 142, op := Op.pick (Operand.tmp 137) (Operand.tmp 141) (Operand.const (Value.bool false)), type := 4, pos := "law.go:62", after := #[{ on := 14, ground := Ground.data }, { on := 18, ground := Ground.data }], guard := none }) (v := ?_) rfl (by kernel_rfl) (by kernel_rfl) (by kernel_rfl) (fun _ _ _ h => h) (Or.inl ⟨by rfl, ?_⟩) (by assumption) ?_
  rotate_left
  · intro w hSw
    (try dsimp only at hSw)
    first | (go_simp; done) | (go_simp; with_reducible rfl)
  (try simp only [Act.put, List.setIfInBounds_toArray, List.set_cons_zero, List.set_cons_succ])
  refine wpAnyH_take (i := 20) (oi := { dst := some 143, op := Op.move (Operand.tmp 142), type := 4, pos := "law.go:62", after := #[{ on := 19, ground := Ground.data }, { on := 18, ground := Ground.chain }], guard := none }) (v := ?_) rfl (by kernel_rfl) (by kernel_rfl) (by kernel_rfl) (fun _ _ _ h => h) (Or.inl ⟨by rfl, ?_⟩) (by assumption) ?_
  rotate_left
  · intro w hSw
    (try dsimp only at hSw)
    first | (go_simp; done) | (go_simp; with_reducible rfl)
  (try simp only [Act.put, List.setIfInBounds_toArray, List.set_cons_zero, List.set_cons_succ])
  refine wpAnyH_ready (rs := [21]) (by kernel_rfl) (by simp) ?_
  refine AllReadyH.cons (o := { dst := some 144, op := Op.call { callee := Callee.value (Operand.func 10), args := #[], argTypes := #[] }, type := 4, pos := "law.go:62", after := #[{ on := 20, ground := Ground.chain }, { on := 20, ground := Ground.guard }], guard := some (20, true) }) rfl (fun K hK => ?_) AllReadyH.nil
  go_simp
  refine (WKS.out _).mono ?_
  rintro e wx ⟨rfl, jx⟩
  replace nc := nc.trans (jx.mono nc.size)
  clear jx
  refine hK.out _ _ (CS.out _ nc) (fun hHeld => ?_)
  clear hK K
  (try simp only [Act.put, List.setIfInBounds_toArray, List.set_cons_zero, List.set_cons_succ])
  refine wpAnyH_take (i := 22) (oi := { dst := some 145, op := Op.pick (Operand.tmp 143) (Operand.tmp 144) (Operand.const (Value.bool false)), type := 4, pos := "law.go:62", after := #[{ on := 20, ground := Ground.data }, { on := 21, ground := Ground.data }], guard := none }) (v := ?_) rfl (by kernel_rfl) (by kernel_rfl) (by kernel_rfl) (fun _ _ _ h => h) (Or.inl ⟨by rfl, ?_⟩) (by assumption) ?_
  rotate_left
  · intro w hSw
    (try dsimp only at hSw)
    first | (go_simp; done) | (go_simp; with_reducible rfl)
  (try simp only [Act.put, List.setIfInBounds_toArray, List.set_cons_zero, List.set_cons_succ])
  refine wpAnyH_take (i := 23) (oi := { dst := some 10, op := Op.assign (Operand.tmp 145), type := 4, pos := "law.go:62", after := #[{ on := 22, ground := Ground.data }, { on := 21, ground := Ground.chain }, { on := 0, ground := Ground.phase }, { on := 1, ground := Ground.phase }, { on := 2, ground := Ground.phase }, { on := 3, ground := Ground.phase }, { on := 4, ground := Ground.phase }, { on := 5, ground := Ground.phase }, { on := 6, ground := Ground.phase }, { on := 7, ground := Ground.phase }, { on := 8, ground := Ground.phase }, { on := 9, ground := Ground.phase }, { on := 10, ground := Ground.phase }, { on := 11, ground := Ground.phase }, { on := 12, ground := Ground.phase }, { on := 13, ground := Ground.phase }, { on := 14, ground := Ground.phase }, { on := 15, ground := Ground.phase }, { on := 16, ground := Ground.phase }, { on := 17, ground := Ground.phase }, { on := 18, ground := Ground.phase }, { on := 19, ground := Ground.phase }, { on := 20, ground := Ground.phase }, { on := 21, ground := Ground.phase }, { on := 22, ground := Ground.phase }], guard := none }) (v := ?_) rfl (by kernel_rfl) (by kernel_rfl) (by kernel_rfl) (fun _ _ _ h => h) (Or.inl ⟨by rfl, ?_⟩) (by assumption) ?_
  rotate_left
  · intro w hSw
    (try dsimp only at hSw)
    first | (go_simp; done) | (go_simp; with_reducible rfl)
  (try simp only [Act.put, List.setIfInBounds_toArray, List.set_cons_zero, List.set_cons_succ])
  refine wpAnyH_done (by kernel_rfl) ?_ _
  have HX := Lib.hid (CB2.out _ nc)
  clear nc CS
  go_wp2
  go_ret
  exact ⟨rfl, HX.out⟩
end Go.Proofs.Ythgoopdekllanaa
