/- A client's sheet laid over its table: package client's with. -/
import Derived.Test.YthgoopdekllanaaClC
import Derived.Test.YthgoopdekllanaaTbN
import Derived.Sort.CutIn
namespace Go.Proofs.Ythgoopdekllanaa
open Go.RowKit Go.Shelf
open SumM

attribute [local go_sem] Oper.semAt_some guard_undef
attribute [local go_sem ↓] nm_ldT nm_ldA nm_stT nm_ldC nm_stC nm_buT nm_buC
attribute [local go_sem ↓] zero_tab zero_cli
attribute [local go_sem] buS_cli

theorem newIter_ok (n : Nat) (hn : 6 ≤ n) (B B' b0 base : Nat) (T : Nat → Int) (ba tv : Int) (sa : Option Addr) (sn sc : Nat) (rs : List SR) (hl : rs.length = sn) (hs : sn ≤ 4000000) (hri : ∀ r ∈ rs, 0 ≤ r.1 ∧ r.1 < 16) (w : World) (hb : NB B 26 65 T w) (hb' : w.heap[B']? = some (.cells #[.int .i64 ba, .int .i64 tv, .slice sa sn sc] 29 (0, 0)))
    (hB : B ≠ b0) (hW : base ≤ w.heap.size) (hsr : SRow5 base w sa rs) :
    SeqOkT Fence.wide n Try.prog 82 #[.pointer (some ⟨B', 0, none⟩), .pointer (some ⟨B, 0, none⟩)] encCl (fun pre x _ => BkOk pre x) (KpB base b0) (fun xs => xs = nwL T rs) (fun _ => True) w :=
  fun l J Jx W m hN _ _ hY h0 => newIter_in n hn B B' b0 base T ba tv sa sn sc rs hl hs hri l J Jx W (nb_below hb m) (bb hb' m) hB (Nat.le_trans hW m.size) (hsr.below (m.mono hW)) hN (fun pre x V hj ho => dropK (hY pre x V hj ho)) h0

theorem rises_in : ∀ {rs : List SR} {l : Int}, -1 ≤ l → rises l rs = true → ∀ r ∈ rs, 0 ≤ r.1 ∧ r.1 < 16
  | [], _, _, _, _, h => absurd h (by simp)
  | r :: rs, l, hl, h, x, hx => by
    simp only [rises, Bool.and_eq_true, decide_eq_true_eq] at h
    rcases List.mem_cons.1 hx with rfl | hx
    · omega
    · exact rises_in (rs := rs) (l := r.1) (by omega) h.2 x hx
/-- While the newer rows come. -/
structure WtI (X : Nat → Int) (ba tv : Int) (sa : Option Addr) (sn sc : Nat) (w : World) (m : Nat) (pre : List SR) (W : World) : Prop where
  lo : Below w.heap.size w W
  tb : NB m 26 65 (layS X pre) W
  sb : W.heap[w.heap.size + 1]? = some (.cells #[.int .i64 ba, .int .i64 tv, .slice sa sn sc] 29 (0, 0))
  ret : CB (w.heap.size + 2) false zeroT W
theorem wtI_abide (X : Nat → Int) (ba tv : Int) (sa : Option Addr) (sn sc : Nat) (w : World) (m B : Nat) (hm : m < B) (hB : w.heap.size + 3 ≤ B) : Abide4 B (WtI X ba tv sa sn sc w m) where
  far := fun _ _ _ h k => ⟨h.lo.trans (k.mono h.lo.size), bb h.tb k, bb h.sb k, bb h.ret k⟩
  turn := fun _ _ _ _ o' h hl ho hc => ⟨h.lo.trans ⟨rfl, rfl, rfl, by simp [World.putObj], fun k hk => World.putObj_heap_other (by omega)⟩, (World.putObj_heap_other (by omega)).trans h.tb, (World.putObj_heap_other (by omega)).trans h.sb, (World.putObj_heap_other (by omega)).trans h.ret⟩

/-- The table that a client's sheet goes over. -/
def ovT (h : Bool) (T : Nat → Int) : Nat → Int := if h = true then T else newT
/-- The table behind it. -/
def wiT (h : Bool) (T : Nat → Int) (tv : Int) (rs : List SR) : Nat → Int := upd (ly (ovT h T) rs) 0 tv

set_option maxRecDepth 100000 in
set_option maxHeartbeats 8000000 in
theorem with_t (n : Nat) (hn : 9 ≤ n) (T : Nat → Int) (ba tv : Int) (sa : Option Addr) (sn sc : Nat) (rs : List SR) (hl : rs.length = sn) (hs : sn ≤ 4000000) (hok : rises (-1) rs = true) (w : World) (hsr : SRow5 w.heap.size w sa rs) :
    CallsIn Fence.wide n Try.prog 58 #[cliV true T, .agg #[.int .i64 ba, .int .i64 tv, .slice sa sn sc]] w fun e w' => e = .returned (cliV true (upd (ly T rs) 0 tv)) ∧ Below w.heap.size w w' := by
  have h1n : 1 ≤ n := by omega
  have hri : ∀ r ∈ rs, 0 ≤ r.1 ∧ r.1 < 16 := rises_in (by omega) hok
  have HLN := Lib.hid (show layS T (nwL T rs) = ly T rs from ly_nw _ rs _ (-1) (by omega) hok (fun _ _ => rfl))
  refine callsIn_of_wp_marks Try.func58 rfl trivial ?_ rfl
  simp only [Try.ntmps58, List.size_toArray, List.length_cons, List.length_nil, Nat.reduceAdd, Nat.reduceSub, Array.replicate_succ, Array.replicate_zero, List.push_toArray, List.append_toArray, List.nil_append, List.cons_append]
  have bC := blkN (blkN (heap_alloc_new w (.cells (cliL true T).toArray 45)) (.cells #[.int .i64 ba, .int .i64 tv, .slice sa sn sc] 29)) (.cells (cliL false zeroT).toArray 45)
  have bS := blkN (newN (w.alloc (.cells (cliL true T).toArray 45)) (.cells #[.int .i64 ba, .int .i64 tv, .slice sa sn sc] 29) (w.heap.size + 1) (by simp)) (.cells (cliL false zeroT).toArray 45)
  have bR := newN ((w.alloc (.cells (cliL true T).toArray 45)).alloc (.cells #[.int .i64 ba, .int .i64 tv, .slice sa sn sc] 29)) (.cells (cliL false zeroT).toArray 45) (w.heap.size + 2) (by simp)
  have L0 := (((Below.refl w.heap.size w).alloc (Nat.le_refl _) (.cells (cliL true T).toArray 45)).alloc (by simp) (.cells #[.int .i64 ba, .int .i64 tv, .slice sa sn sc] 29)).alloc (by simp; omega) (.cells (cliL false zeroT).toArray 45)
  gi_upto_region 1 with fail
  generalize ((w.alloc (.cells (cliL true T).toArray 45)).alloc (.cells #[.int .i64 ba, .int .i64 tv, .slice sa sn sc] 29)).alloc (.cells (cliL false zeroT).toArray 45) = W0 at *
  have l0 := ld_ctab bC
  have s0 := st_new W0 T
  obtain ⟨bT, L1⟩ := boxT_new W0 T
  have bC1 := bb bC L1
  have hh := cb_has bC1
  have bR0 := bR
  replace bS := bb bS L1
  replace bR := bb bR L1
  have hm : w.heap.size + 3 ≤ W0.heap.size := nb_lt2 bR0
  have LL := L0.trans (L1.mono L0.size)
  clear bC L0 L1 bC1 bR0
  gi_upto_region 2 with fail
  clear l0 s0
  generalize (W0.alloc (.cells (numL 65 zeroT).toArray 26)).setCells W0.heap.size 0 (numL 65 T) = W1 at *
  generalize W0.heap.size = m at *
  have l1 := ld_tab bT
  obtain ⟨q0, q1, q2⟩ := sh_cells _ _ _ _ _ bS
  gi_wp2_with fail
  refine ⟨trivial, (newer_in (n - 1) T ba tv sa sn sc W1).mono ?_⟩
  rintro e w2 ⟨rfl, rfl⟩
  have L2 := ((Below.refl W1.heap.size W1).alloc (Nat.le_refl _) (.cells (numL 65 T).toArray 26)).alloc (by simp) (.cells #[.int .i64 ba, .int .i64 tv, .slice sa sn sc] 29)
  have hVT := blkN (heap_alloc_new W1 (.cells (numL 65 T).toArray 26)) (.cells #[.int .i64 ba, .int .i64 tv, .slice sa sn sc] 29)
  have hVS := newN (W1.alloc (.cells (numL 65 T).toArray 26)) (.cells #[.int .i64 ba, .int .i64 tv, .slice sa sn sc] 29) (W1.heap.size + 1) (by simp)
  have hsV : ((W1.alloc (.cells (numL 65 T).toArray 26)).alloc (.cells #[.int .i64 ba, .int .i64 tv, .slice sa sn sc] 29)).heap.size = W1.heap.size + 2 := by simp
  have hmW : m < W1.heap.size := nb_lt bT
  have IV : WtI T ba tv sa sn sc w m [] ((W1.alloc (.cells (numL 65 T).toArray 26)).alloc (.cells #[.int .i64 ba, .int .i64 tv, .slice sa sn sc] 29)) := ⟨LL.trans (L2.mono LL.size), bb bT L2, bb bS L2, bb bR L2⟩
  have HI := Lib.hid IV
  have HV := Lib.hid (And.intro hVT hVS)
  have HZ := Lib.hid (And.intro hm (And.intro hmW (And.intro hsV LL.size)))
  have HSR := Lib.hid (hsr.below (LL.trans (L2.mono LL.size)))
  clear l1 q0 q1 q2 hh L2 hVT hVS IV LL bT bS bR hsr
  gi_wp2
  generalize (W1.alloc (.cells (numL 65 T).toArray 26)).alloc (.cells #[.int .i64 ba, .int .i64 tv, .slice sa sn sc] 29) = V at *
  refine range_okT rfl h1n (gf := 82) (lb := #[.pointer (some ⟨W1.heap.size + 1, 0, none⟩), .pointer (some ⟨W1.heap.size, 0, none⟩)]) rfl trivial (enters_of Try.func82 (by kernel_rfl) rfl)
    (newIter_ok (n - 1) (by omega) W1.heap.size (W1.heap.size + 1) m w.heap.size T ba tv sa sn sc rs hl hs hri V HV.out.1 HV.out.2 (by have := HZ.out; omega) (by have := HZ.out; omega) HSR.out) (fun _ _ _ _ _ _ h _ _ _ => h) KpB.trans (fun W l o o' h1 h2 h3 h4 => KpB.put (w := V) (by have := HZ.out; omega) W l o o' h1 h2 h3 h4) (fun _ => rfl)
    (WtI T ba tv sa sn sc w m) (fun _ _ _ => False) (wtI_abide _ _ _ _ _ _ _ _ _ (by have := HZ.out; omega) (by have := HZ.out; omega)) (fun _ => Abide4.none _) HI.out
    (fun r => .cells #[.int .i64 r.2.1, .int .i64 r.2.2.1, .int .i64 r.2.2.2.1, .int .i64 r.2.2.2.2] 23) (fun W _ h => KpB.below (by have := HZ.out; omega) ((Below.refl _ W).alloc (Nat.le_refl _) _)) (fun _ _ _ h => h)
    (fun r b => { tmps := #[cliV true T, .agg #[.int .i64 ba, .int .i64 tv, .slice sa sn sc], .pointer (some ⟨w.heap.size, 0, none⟩), .pointer (some ⟨w.heap.size + 1, 0, none⟩), .pointer (some ⟨w.heap.size + 1 + 1, 0, none⟩), .pointer (some ⟨m, 0, none⟩), .int .i64 r.1, .pointer (some ⟨b, 0, none⟩), .pointer (some ⟨w.heap.size, 1, none⟩), tabV T, .pointer (some ⟨w.heap.size, 0, none⟩), .bool true, .bool false, undef, tabV T, .agg #[.int .i64 ba, .int .i64 tv, .slice sa sn sc], .func (.func 82) #[] #[.pointer (some ⟨W1.heap.size + 1, 0, none⟩), .pointer (some ⟨W1.heap.size, 0, none⟩)], .int .i64 r.1, entV r.2, undef, undef, undef, undef, undef, undef, undef, undef, undef], defers := [] }) ?assign ?body ?done ?stop
  case assign =>
    intro l x W K hK
    simp only [encCl] at hK ⊢
    gi_wp2
    exact hK
  case stop =>
    rintro D c pre W hD _ hx
    exact hx.elim
  case done =>
    rintro D ys W hD rfl ⟨hB, hT, hS, hR⟩ hK
    rw [HLN.out] at hT
    obtain ⟨q0, q1, q2⟩ := sh_cells _ _ _ _ _ hS
    have c0 := nb_cell hT (o := 0) (by omega)
    have g0 := nb_frozen hT 0
    have H2 := Lib.hid (And.intro hB (And.intro hT (And.intro hR (And.intro hK (show w.heap.size + 3 ≤ m ∧ m < D by have := HZ.out; omega)))))
    clear hB hT hS hR hK hD
    gi_upto_region 9 with fail
    obtain ⟨hB, hT, hR, hK, hm3, hmD⟩ := H2.out
    have hT6 : NB m 26 65 (upd (ly T rs) 0 tv) (W.setCell ⟨m, 0, none⟩ (.int .i64 tv)) := nb_put hT 0 tv
    have hR6 : CB (w.heap.size + 2) false zeroT (W.setCell ⟨m, 0, none⟩ (.int .i64 tv)) := (Below.heap_setCell W ⟨m, 0, none⟩ (.int .i64 tv) (w.heap.size + 2) (by show w.heap.size + 2 ≠ m; omega)).trans hR
    have hB6 : Below w.heap.size w (W.setCell ⟨m, 0, none⟩ (.int .i64 tv)) := hB.setCell (p := ⟨m, 0, none⟩) (by show w.heap.size ≤ m; omega) (.int .i64 tv)
    have hK6 : (W.setCell ⟨m, 0, none⟩ (.int .i64 tv)).heap[D]? = some (.deferred (some [])) := (Below.heap_setCell W ⟨m, 0, none⟩ (.int .i64 tv) D (by show D ≠ m; omega)).trans hK
    have HD := Lib.hid (And.intro hm3 hmD)
    clear hB hT hR hK hm3 hmD H2 c0 g0 q0 q1 q2
    generalize W.setCell ⟨m, 0, none⟩ (.int .i64 tv) = W6 at *
    have l6 := ld_tab hT6
    have s6 := st_cli hR6 true (upd (ly T rs) 0 tv)
    have HS := Lib.hid (cb_full hR6 true (upd (ly T rs) 0 tv))
    have HX := Lib.hid (below_setCells (w.heap.size + 2) (by omega) (cliL true (upd (ly T rs) 0 tv)) 0 w _ hB6)
    have HK := Lib.hid ((nb_other (b := w.heap.size + 2) (k := D) (by have := HD.out; omega) (cliL true (upd (ly T rs) 0 tv)) 0 W6).trans hK6)
    clear hT6 hR6 hB6 hK6
    gi_wp2
    refine ⟨by simp, .inl ⟨_, _, rfl, run_takeDeferred HK.out, ?_⟩⟩
    refine ⟨_, results_cell_row rfl _ _ (w.heap.size + 2) 45 _ (0, 0) _ rfl ((World.putObj_heap_other (by have := HD.out; omega)).trans HS.out) Try.undC rfl (by rw [List.size_toArray, cliL_len]; exact Try.sizC), rfl, HX.out.trans (belowK_b (w := w) (Nat.le_refl _) _ D _ _ (by have := HD.out; omega) HK.out rfl rfl)⟩
  case body =>
    rintro l pre ⟨z, u0, u1, u2, u3⟩ W b ⟨hB, hT, hS, hR⟩ ⟨hz0, hz1⟩ hb1 hb2 hbx
    simp only at hz0 hz1
    obtain ⟨k, rfl⟩ : ∃ k : Nat, z = (k : Int) := ⟨z.toNat, by omega⟩
    have hk : k < 16 := by omega
    have hk1 : (k : Int) < 16 := by omega
    have hSN := layS_snoc T pre ((k : Int), u0, u1, u2, u3)
    simp only [Int.toNat_natCast] at hSN
    have q := rng_row hT k hk
    have f0 := nb_frozen hT (1 + k * 4)
    have f1 := nb_frozen hT (1 + k * 4 + 1)
    have f2 := nb_frozen hT (1 + k * 4 + 2)
    have f3 := nb_frozen hT (1 + k * 4 + 3)
    obtain ⟨y0, y1, y2, y3⟩ := ent_cells _ _ _ _ hbx
    have hm3 : w.heap.size + 3 ≤ m := HZ.out.1
    have HB := Lib.hid (below_setCells m (by omega) [.int .i64 u0, .int .i64 u1, .int .i64 u2, .int .i64 u3] (1 + k * 4) w _ hB)
    have HKB := Lib.hid (below_setCells m (by omega) [.int .i64 u0, .int .i64 u1, .int .i64 u2, .int .i64 u3] (1 + k * 4) W W (Below.refl w.heap.size W))
    have HTT := Lib.hid (show NB m 26 65 (layS T (pre ++ [((k : Int), u0, u1, u2, u3)])) (W.setCells m (1 + k * 4) [.int .i64 u0, .int .i64 u1, .int .i64 u2, .int .i64 u3]) by rw [hSN]; exact nb_row hT k (u0, u1, u2, u3))
    have HSS := Lib.hid ((nb_other (b := m) (k := w.heap.size + 1) (by omega) [.int .i64 u0, .int .i64 u1, .int .i64 u2, .int .i64 u3] (1 + k * 4) W).trans hS)
    have HRR := Lib.hid ((nb_other (b := m) (k := w.heap.size + 2) (by omega) [.int .i64 u0, .int .i64 u1, .int .i64 u2, .int .i64 u3] (1 + k * 4) W).trans hR)
    have HO := Lib.hid (others_setCells m [.int .i64 u0, .int .i64 u1, .int .i64 u2, .int .i64 u3] (1 + k * 4) W)
    obtain ⟨v, hv⟩ : ∃ v, rowT (layS T pre) k = v := ⟨_, rfl⟩
    rw [hv] at q
    obtain ⟨v0, v1, v2, v3⟩ := v
    obtain ⟨x0, x1, x2, x3⟩ := ent_of_range _ _ _ _ q
    clear hB hT hS hR q hSN hbx hv
    gi_wp2
    exact ⟨HO.out.from _, ⟨HKB.out, fun i cur t r hi hc => (nb_other (b := m) (k := i) hi [.int .i64 u0, .int .i64 u1, .int .i64 u2, .int .i64 u3] (1 + k * 4) W).trans hc⟩, HB.out, HTT.out, HSS.out, HRR.out⟩

set_option maxRecDepth 100000 in
set_option maxHeartbeats 8000000 in
theorem with_f (n : Nat) (hn : 9 ≤ n) (T : Nat → Int) (ba tv : Int) (sa : Option Addr) (sn sc : Nat) (rs : List SR) (hl : rs.length = sn) (hs : sn ≤ 4000000) (hok : rises (-1) rs = true) (w : World) (hsr : SRow5 w.heap.size w sa rs) :
    CallsIn Fence.wide n Try.prog 58 #[cliV false T, .agg #[.int .i64 ba, .int .i64 tv, .slice sa sn sc]] w fun e w' => e = .returned (cliV true (upd (ly newT rs) 0 tv)) ∧ Below w.heap.size w w' := by
  have h1n : 1 ≤ n := by omega
  have hri : ∀ r ∈ rs, 0 ≤ r.1 ∧ r.1 < 16 := rises_in (by omega) hok
  have HLN := Lib.hid (show layS newT (nwL newT rs) = ly newT rs from ly_nw _ rs _ (-1) (by omega) hok (fun _ _ => rfl))
  refine callsIn_of_wp_marks Try.func58 rfl trivial ?_ rfl
  simp only [Try.ntmps58, List.size_toArray, List.length_cons, List.length_nil, Nat.reduceAdd, Nat.reduceSub, Array.replicate_succ, Array.replicate_zero, List.push_toArray, List.append_toArray, List.nil_append, List.cons_append]
  have bC := blkN (blkN (heap_alloc_new w (.cells (cliL false T).toArray 45)) (.cells #[.int .i64 ba, .int .i64 tv, .slice sa sn sc] 29)) (.cells (cliL false zeroT).toArray 45)
  have bS := blkN (newN (w.alloc (.cells (cliL false T).toArray 45)) (.cells #[.int .i64 ba, .int .i64 tv, .slice sa sn sc] 29) (w.heap.size + 1) (by simp)) (.cells (cliL false zeroT).toArray 45)
  have bR := newN ((w.alloc (.cells (cliL false T).toArray 45)).alloc (.cells #[.int .i64 ba, .int .i64 tv, .slice sa sn sc] 29)) (.cells (cliL false zeroT).toArray 45) (w.heap.size + 2) (by simp)
  have L0 := (((Below.refl w.heap.size w).alloc (Nat.le_refl _) (.cells (cliL false T).toArray 45)).alloc (by simp) (.cells #[.int .i64 ba, .int .i64 tv, .slice sa sn sc] 29)).alloc (by simp; omega) (.cells (cliL false zeroT).toArray 45)
  gi_upto_region 1 with fail
  generalize ((w.alloc (.cells (cliL false T).toArray 45)).alloc (.cells #[.int .i64 ba, .int .i64 tv, .slice sa sn sc] 29)).alloc (.cells (cliL false zeroT).toArray 45) = W0 at *
  have l0 := ld_ctab bC
  have s0 := st_new W0 T
  obtain ⟨bT, L1⟩ := boxT_new W0 T
  have bC1 := bb bC L1
  have hh := cb_has bC1
  have bR0 := bR
  replace bS := bb bS L1
  replace bR := bb bR L1
  have hm : w.heap.size + 3 ≤ W0.heap.size := nb_lt2 bR0
  have LL := L0.trans (L1.mono L0.size)
  clear bC L0 L1 bC1 bR0
  gi_upto_region 2 with fail
  clear l0 s0
  generalize (W0.alloc (.cells (numL 65 zeroT).toArray 26)).setCells W0.heap.size 0 (numL 65 T) = W1 at *
  generalize W0.heap.size = m at *
  gi_wp2_with fail
  refine ⟨trivial, callsIn_wide.2 ((new_any W1).mono ?_)⟩
  rintro e w2 ⟨rfl, m2⟩
  have LL2 := LL.trans (m2.mono LL.size)
  have bT2 := bb bT m2
  have bS2 := bb bS m2
  have bR2 := bb bR m2
  have s2 := st_tab bT2 newT
  have bT3 := nb_full bT2 newT
  have bS3 := (nb_other (b := m) (k := w.heap.size + 1) (by omega) (numL 65 newT) 0 w2).trans bS2
  have bR3 := (nb_other (b := m) (k := w.heap.size + 2) (by omega) (numL 65 newT) 0 w2).trans bR2
  have LL3 := below_setCells m (by omega) (numL 65 newT) 0 w _ LL2
  clear bT bS bR LL bT2 bS2 bR2 LL2 m2
  have HA := Lib.hid (And.intro bT3 (And.intro bS3 (And.intro bR3 LL3)))
  clear bT3 bS3 bR3 LL3 hh
  gi_upto_region 4 with fail
  clear s2
  obtain ⟨bT, bS, bR, LL⟩ := HA.out
  clear HA
  generalize w2.setCells m 0 (numL 65 newT) = W1 at *
  have l1 := ld_tab bT
  obtain ⟨q0, q1, q2⟩ := sh_cells _ _ _ _ _ bS
  have hh : True := trivial
  gi_wp2_with fail
  refine ⟨trivial, (newer_in (n - 1) newT ba tv sa sn sc W1).mono ?_⟩
  rintro e w2 ⟨rfl, rfl⟩
  have L2 := ((Below.refl W1.heap.size W1).alloc (Nat.le_refl _) (.cells (numL 65 newT).toArray 26)).alloc (by simp) (.cells #[.int .i64 ba, .int .i64 tv, .slice sa sn sc] 29)
  have hVT := blkN (heap_alloc_new W1 (.cells (numL 65 newT).toArray 26)) (.cells #[.int .i64 ba, .int .i64 tv, .slice sa sn sc] 29)
  have hVS := newN (W1.alloc (.cells (numL 65 newT).toArray 26)) (.cells #[.int .i64 ba, .int .i64 tv, .slice sa sn sc] 29) (W1.heap.size + 1) (by simp)
  have hsV : ((W1.alloc (.cells (numL 65 newT).toArray 26)).alloc (.cells #[.int .i64 ba, .int .i64 tv, .slice sa sn sc] 29)).heap.size = W1.heap.size + 2 := by simp
  have hmW : m < W1.heap.size := nb_lt bT
  have IV : WtI newT ba tv sa sn sc w m [] ((W1.alloc (.cells (numL 65 newT).toArray 26)).alloc (.cells #[.int .i64 ba, .int .i64 tv, .slice sa sn sc] 29)) := ⟨LL.trans (L2.mono LL.size), bb bT L2, bb bS L2, bb bR L2⟩
  have HI := Lib.hid IV
  have HV := Lib.hid (And.intro hVT hVS)
  have HZ := Lib.hid (And.intro hm (And.intro hmW (And.intro hsV LL.size)))
  have HSR := Lib.hid (hsr.below (LL.trans (L2.mono LL.size)))
  clear l1 q0 q1 q2 hh L2 hVT hVS IV LL bT bS bR hsr
  gi_wp2
  generalize (W1.alloc (.cells (numL 65 newT).toArray 26)).alloc (.cells #[.int .i64 ba, .int .i64 tv, .slice sa sn sc] 29) = V at *
  refine range_okT rfl h1n (gf := 82) (lb := #[.pointer (some ⟨W1.heap.size + 1, 0, none⟩), .pointer (some ⟨W1.heap.size, 0, none⟩)]) rfl trivial (enters_of Try.func82 (by kernel_rfl) rfl)
    (newIter_ok (n - 1) (by omega) W1.heap.size (W1.heap.size + 1) m w.heap.size newT ba tv sa sn sc rs hl hs hri V HV.out.1 HV.out.2 (by have := HZ.out; omega) (by have := HZ.out; omega) HSR.out) (fun _ _ _ _ _ _ h _ _ _ => h) KpB.trans (fun W l o o' h1 h2 h3 h4 => KpB.put (w := V) (by have := HZ.out; omega) W l o o' h1 h2 h3 h4) (fun _ => rfl)
    (WtI newT ba tv sa sn sc w m) (fun _ _ _ => False) (wtI_abide _ _ _ _ _ _ _ _ _ (by have := HZ.out; omega) (by have := HZ.out; omega)) (fun _ => Abide4.none _) HI.out
    (fun r => .cells #[.int .i64 r.2.1, .int .i64 r.2.2.1, .int .i64 r.2.2.2.1, .int .i64 r.2.2.2.2] 23) (fun W _ h => KpB.below (by have := HZ.out; omega) ((Below.refl _ W).alloc (Nat.le_refl _) _)) (fun _ _ _ h => h)
    (fun r b => { tmps := #[cliV false T, .agg #[.int .i64 ba, .int .i64 tv, .slice sa sn sc], .pointer (some ⟨w.heap.size, 0, none⟩), .pointer (some ⟨w.heap.size + 1, 0, none⟩), .pointer (some ⟨w.heap.size + 1 + 1, 0, none⟩), .pointer (some ⟨m, 0, none⟩), .int .i64 r.1, .pointer (some ⟨b, 0, none⟩), .pointer (some ⟨w.heap.size, 1, none⟩), tabV T, .pointer (some ⟨w.heap.size, 0, none⟩), .bool false, .bool true, tabV newT, tabV newT, .agg #[.int .i64 ba, .int .i64 tv, .slice sa sn sc], .func (.func 82) #[] #[.pointer (some ⟨W1.heap.size + 1, 0, none⟩), .pointer (some ⟨W1.heap.size, 0, none⟩)], .int .i64 r.1, entV r.2, undef, undef, undef, undef, undef, undef, undef, undef, undef], defers := [] }) ?assign ?body ?done ?stop
  case assign =>
    intro l x W K hK
    simp only [encCl] at hK ⊢
    gi_wp2
    exact hK
  case stop =>
    rintro D c pre W hD _ hx
    exact hx.elim
  case done =>
    rintro D ys W hD rfl ⟨hB, hT, hS, hR⟩ hK
    rw [HLN.out] at hT
    obtain ⟨q0, q1, q2⟩ := sh_cells _ _ _ _ _ hS
    have c0 := nb_cell hT (o := 0) (by omega)
    have g0 := nb_frozen hT 0
    have H2 := Lib.hid (And.intro hB (And.intro hT (And.intro hR (And.intro hK (show w.heap.size + 3 ≤ m ∧ m < D by have := HZ.out; omega)))))
    clear hB hT hS hR hK hD
    gi_upto_region 9 with fail
    obtain ⟨hB, hT, hR, hK, hm3, hmD⟩ := H2.out
    have hT6 : NB m 26 65 (upd (ly newT rs) 0 tv) (W.setCell ⟨m, 0, none⟩ (.int .i64 tv)) := nb_put hT 0 tv
    have hR6 : CB (w.heap.size + 2) false zeroT (W.setCell ⟨m, 0, none⟩ (.int .i64 tv)) := (Below.heap_setCell W ⟨m, 0, none⟩ (.int .i64 tv) (w.heap.size + 2) (by show w.heap.size + 2 ≠ m; omega)).trans hR
    have hB6 : Below w.heap.size w (W.setCell ⟨m, 0, none⟩ (.int .i64 tv)) := hB.setCell (p := ⟨m, 0, none⟩) (by show w.heap.size ≤ m; omega) (.int .i64 tv)
    have hK6 : (W.setCell ⟨m, 0, none⟩ (.int .i64 tv)).heap[D]? = some (.deferred (some [])) := (Below.heap_setCell W ⟨m, 0, none⟩ (.int .i64 tv) D (by show D ≠ m; omega)).trans hK
    have HD := Lib.hid (And.intro hm3 hmD)
    clear hB hT hR hK hm3 hmD H2 c0 g0 q0 q1 q2
    generalize W.setCell ⟨m, 0, none⟩ (.int .i64 tv) = W6 at *
    have l6 := ld_tab hT6
    have s6 := st_cli hR6 true (upd (ly newT rs) 0 tv)
    have HS := Lib.hid (cb_full hR6 true (upd (ly newT rs) 0 tv))
    have HX := Lib.hid (below_setCells (w.heap.size + 2) (by omega) (cliL true (upd (ly newT rs) 0 tv)) 0 w _ hB6)
    have HK := Lib.hid ((nb_other (b := w.heap.size + 2) (k := D) (by have := HD.out; omega) (cliL true (upd (ly newT rs) 0 tv)) 0 W6).trans hK6)
    clear hT6 hR6 hB6 hK6
    gi_wp2
    refine ⟨by simp, .inl ⟨_, _, rfl, run_takeDeferred HK.out, ?_⟩⟩
    refine ⟨_, results_cell_row rfl _ _ (w.heap.size + 2) 45 _ (0, 0) _ rfl ((World.putObj_heap_other (by have := HD.out; omega)).trans HS.out) Try.undC rfl (by rw [List.size_toArray, cliL_len]; exact Try.sizC), rfl, HX.out.trans (belowK_b (w := w) (Nat.le_refl _) _ D _ _ (by have := HD.out; omega) HK.out rfl rfl)⟩
  case body =>
    rintro l pre ⟨z, u0, u1, u2, u3⟩ W b ⟨hB, hT, hS, hR⟩ ⟨hz0, hz1⟩ hb1 hb2 hbx
    simp only at hz0 hz1
    obtain ⟨k, rfl⟩ : ∃ k : Nat, z = (k : Int) := ⟨z.toNat, by omega⟩
    have hk : k < 16 := by omega
    have hk1 : (k : Int) < 16 := by omega
    have hSN := layS_snoc newT pre ((k : Int), u0, u1, u2, u3)
    simp only [Int.toNat_natCast] at hSN
    have q := rng_row hT k hk
    have f0 := nb_frozen hT (1 + k * 4)
    have f1 := nb_frozen hT (1 + k * 4 + 1)
    have f2 := nb_frozen hT (1 + k * 4 + 2)
    have f3 := nb_frozen hT (1 + k * 4 + 3)
    obtain ⟨y0, y1, y2, y3⟩ := ent_cells _ _ _ _ hbx
    have hm3 : w.heap.size + 3 ≤ m := HZ.out.1
    have HB := Lib.hid (below_setCells m (by omega) [.int .i64 u0, .int .i64 u1, .int .i64 u2, .int .i64 u3] (1 + k * 4) w _ hB)
    have HKB := Lib.hid (below_setCells m (by omega) [.int .i64 u0, .int .i64 u1, .int .i64 u2, .int .i64 u3] (1 + k * 4) W W (Below.refl w.heap.size W))
    have HTT := Lib.hid (show NB m 26 65 (layS newT (pre ++ [((k : Int), u0, u1, u2, u3)])) (W.setCells m (1 + k * 4) [.int .i64 u0, .int .i64 u1, .int .i64 u2, .int .i64 u3]) by rw [hSN]; exact nb_row hT k (u0, u1, u2, u3))
    have HSS := Lib.hid ((nb_other (b := m) (k := w.heap.size + 1) (by omega) [.int .i64 u0, .int .i64 u1, .int .i64 u2, .int .i64 u3] (1 + k * 4) W).trans hS)
    have HRR := Lib.hid ((nb_other (b := m) (k := w.heap.size + 2) (by omega) [.int .i64 u0, .int .i64 u1, .int .i64 u2, .int .i64 u3] (1 + k * 4) W).trans hR)
    have HO := Lib.hid (others_setCells m [.int .i64 u0, .int .i64 u1, .int .i64 u2, .int .i64 u3] (1 + k * 4) W)
    obtain ⟨v, hv⟩ : ∃ v, rowT (layS newT pre) k = v := ⟨_, rfl⟩
    rw [hv] at q
    obtain ⟨v0, v1, v2, v3⟩ := v
    obtain ⟨x0, x1, x2, x3⟩ := ent_of_range _ _ _ _ q
    clear hB hT hS hR q hSN hbx hv
    gi_wp2
    exact ⟨HO.out.from _, ⟨HKB.out, fun i cur t r hi hc => (nb_other (b := m) (k := i) hi [.int .i64 u0, .int .i64 u1, .int .i64 u2, .int .i64 u3] (1 + k * 4) W).trans hc⟩, HB.out, HTT.out, HSS.out, HRR.out⟩

theorem cWith_any (h : Bool) (T : Nat → Int) (ba tv : Int) (sa : Option Addr) (sn sc : Nat) (rs : List SR) (hl : rs.length = sn) (hs : sn ≤ 4000000) (hok : rises (-1) rs = true) (w : World) (hsr : SRow5 w.heap.size w sa rs) :
    Calls Try.prog 58 #[cliV h T, .agg #[.int .i64 ba, .int .i64 tv, .slice sa sn sc]] w fun e w' => e = .returned (cliV true (wiT h T tv rs)) ∧ Below w.heap.size w w' := by
  cases h
  · exact callsIn_wide.1 (with_f 9 (by omega) T ba tv sa sn sc rs hl hs hok w hsr)
  · exact callsIn_wide.1 (with_t 9 (by omega) T ba tv sa sn sc rs hl hs hok w hsr)
end Go.Proofs.Ythgoopdekllanaa
