/- What has changed: package table's, the document's. -/
import Derived.Test.YthgoopdekllanaaTbH
import Derived.Test.YthgoopdekllanaaRegIn
namespace Go.Proofs.Ythgoopdekllanaa
open Go.RowKit Go.Shelf
open SumM

attribute [local go_sem] Oper.semAt_some build_tab guard_undef
attribute [local go_sem ↓] zero_tab
attribute [local go_sem ↓] nm_ldT nm_ldA nm_stT

theorem below_tb {B : Nat} {a w : World} (h : Below B a w) (n : Nat) : Below B a (w.drewN n) := ⟨h.os, h.tape, h.output, h.size, h.block⟩
/-- Where the rows are not the same. -/
def chP (T U : Nat → Int) (i : Nat) : Bool := !(decide (rowT T i = rowT U i))
theorem chP_ne {T U : Nat → Int} {i : Nat} {u0 u1 u2 u3 v0 v1 v2 v3 : Int} (h : rowT T i = (u0, u1, u2, u3)) (k : rowT U i = (v0, v1, v2, v3)) : chP T U i = !(eqE u0 u1 u2 u3 v0 v1 v2 v3) := by
  unfold chP eqE
  rw [h, k]
  simp only [Prod.mk.injEq]

theorem chP_none {T U : Nat → Int} (h : eqN 64 (fun k => T (1 + k)) (fun k => U (1 + k)) = true) : selI (chP T U) (List.range 16) = [] := by
  have h := eqN_iff.1 h
  have : selI (chP T U) (List.range 16) = selI (fun _ => false) (List.range 16) := by
    refine selI_congr fun i hi => ?_
    unfold chP rowT
    have h0 := h (i * 4) (by omega)
    have h1 := h (i * 4 + 1) (by omega)
    have h2 := h (i * 4 + 2) (by omega)
    have h3 := h (i * 4 + 3) (by omega)
    simp only [← Nat.add_assoc] at h1 h2 h3
    rw [h0, h1, h2, h3]
    simp
  rw [this]
  rfl

set_option maxRecDepth 100000 in
set_option maxHeartbeats 8000000 in
theorem changed_own (n : Nat) (hn : 4 ≤ n) (T U : Nat → Int) (w : World) :
    CallsIn Fence.wide n Try.prog 67 #[tabV T, tabV U] w fun e w' => ∃ v, e = .returned v ∧ w'.ownsRow w.heap.size 3 1 v (selI (chP T U) (List.range 16)).length ((selI (chP T U) (List.range 16)).map (Value.int .i64)) ∧ Below w.heap.size w w' := by
  have h1n : 1 ≤ n := by omega
  obtain ⟨i0, hi, hz0, hz1, hz2⟩ := info_parts Try.infoInt
  refine callsIn_of_wp_marks Try.func67 rfl trivial ?_ rfl
  simp only [Try.ntmps67, List.size_toArray, List.length_cons, List.length_nil, Nat.reduceAdd, Nat.reduceSub, Array.replicate_succ, Array.replicate_zero, List.push_toArray, List.append_toArray, List.nil_append, List.cons_append]
  have bT := heap_alloc_new w (.cells (numL 65 T).toArray 26)
  have bT := (Below.heap_alloc _ (.cells (numL 65 U).toArray 26) _ (by simp)).trans bT
  have bU := heap_alloc_new (w.alloc (.cells (numL 65 T).toArray 26)) (.cells (numL 65 U).toArray 26)
  rw [World.size_alloc] at bU
  have L0 := ((Below.refl w.heap.size w).alloc (Nat.le_refl _) (.cells (numL 65 T).toArray 26)).alloc (by simp) (.cells (numL 65 U).toArray 26)
  have hs : ((w.alloc (.cells (numL 65 T).toArray 26)).alloc (.cells (numL 65 U).toArray 26)).heap.size = w.heap.size + 2 := by simp
  gi_upto_region 1 with (fail)
  generalize (w.alloc (.cells (numL 65 T).toArray 26)).alloc (.cells (numL 65 U).toArray 26) = W0 at *
  have bL := Boxed.new W0 107 (.slice none 0 0)
  have L1 := (Below.refl W0.heap.size W0).alloc (Nat.le_refl _) (.cells #[.slice none 0 0] 107)
  have l0 := ld_tab (bb bT L1)
  have l1 := ld_rows (bb bT L1)
  have l2 := ld_rows (bb bU L1)
  have hs1 : (W0.alloc (.cells #[.slice none 0 0] 107)).heap.size = w.heap.size + 3 := by simp; omega
  have HL0 := Lib.hid L0
  obtain ⟨q, hq⟩ : ∃ q, eqN 64 (fun k => T (1 + k)) (fun k => U (1 + k)) = q := ⟨_, rfl⟩
  have heq := fun W => eql_rows (fun k => T (1 + k)) (fun k => U (1 + k)) W
  rw [hq] at heq
  have HQ := Lib.hid hq
  clear hq
  cases q
  case true =>
    have HL1 := Lib.hid (L0.trans (L1.mono L0.size))
    clear L1 L0 bT bU bL
    gi_wp2
    refine ⟨_, results_tmp rfl _ _ _, _, rfl, ?_, HL1.out⟩
    rw [chP_none HQ.out]
    exact World.ownsRow_nil _ _ _ _
  gi_wp2_with fail
  clear heq l1 l2
  generalize W0.alloc (.cells #[.slice none 0 0] 107) = W1 at *
  refine ⟨trivial, (rows_in (n - 1) T W1).mono ?_⟩
  rintro e w1 ⟨rfl, rfl⟩
  have hV := heap_alloc_new W1 (.cells (numL 65 T).toArray 26)
  have hsV : (W1.alloc (.cells (numL 65 T).toArray 26)).heap.size = w.heap.size + 4 := by simp; omega
  have IV : SelI (chP T U) W0 [] (W1.alloc (.cells (numL 65 T).toArray 26)) := ⟨⟨_, bL.alloc _, (World.ownsRow_nil _ _ _ _), trivial⟩, L1.alloc L1.size _⟩
  rw [hs1] at hV ⊢
  have HI := Lib.hid IV
  have HU := Lib.hid bU
  have HS := Lib.hid hs
  clear l0 bT bL L1 hs1 IV bU L0
  gi_wp2
  generalize W1.alloc (.cells (numL 65 T).toArray 26) = V at *
  refine range_okD rfl h1n (gf := 79) (lb := #[.pointer (some ⟨w.heap.size + 3, 0, none⟩)]) rfl trivial (enters_of Try.func79 (by kernel_rfl) rfl)
    (rows_okD (n - 1) (by omega) (w.heap.size + 3) T V hV) (fun _ _ _ _ _ _ h _ _ _ => h) (fun _ _ => trivial) (fun _ _ _ _ _ _ _ _ => trivial) (fun _ => rfl)
    (SelI (chP T U) W0) (fun _ _ _ => False) (selI_abide _ _ _ (by omega)) (fun _ => ⟨fun _ _ _ h => h, fun _ _ _ _ _ h _ _ _ => h⟩) (selI_drew _ _) HI.out
    (fun i => .cells #[.int .i64 (rowT T i).1, .int .i64 (rowT T i).2.1, .int .i64 (rowT T i).2.2.1, .int .i64 (rowT T i).2.2.2] 23) (fun _ _ => trivial) (fun _ _ _ h => h)
    (fun i b' => { tmps := #[tabV T, tabV U, .pointer (some ⟨w.heap.size, 0, none⟩), .pointer (some ⟨w.heap.size + 1, 0, none⟩), .slice none 0 0, .pointer (some ⟨w.heap.size + 2, 0, none⟩), .int .i64 (i : Nat), .pointer (some ⟨b', 0, none⟩), .pointer (some ⟨w.heap.size, 1, none⟩), rowsV T, .pointer (some ⟨w.heap.size + 1, 1, none⟩), rowsV U, .bool false, tabV T, .func (.func 79) #[] #[.pointer (some ⟨w.heap.size + 3, 0, none⟩)], .int .i64 (i : Nat), entV (rowT T i), undef, undef, undef, undef, undef, undef, undef, undef, undef, undef, undef], defers := [] }) ?assign ?body ?done ?stop
  case assign =>
    intro l x W K hK
    simp only [encR] at hK ⊢
    gi_wp2
    exact hK
  case stop =>
    rintro D c pre W hD _ h
    exact h.elim
  case done =>
    rintro D ys W hD rfl ⟨⟨v', hv, hrow, _⟩, hB'⟩ hK
    rw [HS.out] at hv
    have hc := hv.cell
    have HR := Lib.hid hrow
    have HBB := Lib.hid hB'
    have HK := Lib.hid hK
    have HD := Lib.hid (show w.heap.size + 4 ≤ D by omega)
    clear hv hB' hK hD
    obtain ⟨a', c', rfl⟩ := own_slice hrow
    clear hrow
    gi_wp2
    refine ⟨by simp, .inl ⟨_, _, rfl, run_takeDeferred HK.out, ?_⟩⟩
    have hrow' := ownsRow_putObj HR.out (.deferred none) HK.out rfl
    exact ⟨_, results_tmp rfl _ _ _, _, rfl, ownS_base hrow' HL0.out.size, (HL0.out.trans (HBB.out.mono HL0.out.size)).trans (belowK_b (w := w) (Nat.le_refl _) W D _ (.deferred none) (by have := HD.out; omega) HK.out rfl rfl)⟩
  case body =>
    rintro l pre i W b' ⟨⟨v, hv, hrow, _⟩, hB'⟩ ⟨hpre, hi16⟩ hb1 hb2 hbx
    subst hpre
    have hle := selI_len (chP T U) i
    have hk1 : (i : Int) < 16 := by omega
    have q' := rng_row (show NB (w.heap.size + 1) 26 65 U W from (hB'.block _ (by omega)).trans HU.out) i hi16
    have hp := fun u0 u1 u2 u3 v0 v1 v2 v3 (h : rowT T i = (u0, u1, u2, u3)) (h' : rowT U i = (v0, v1, v2, v3)) => chP_ne h h'
    generalize rowT T i = u at *
    generalize rowT U i = v at *
    obtain ⟨x0, x1, x2, x3⟩ := u
    obtain ⟨y0, y1, y2, y3⟩ := v
    have hp := hp _ _ _ _ _ _ _ _ rfl rfl
    have hne := fun W => run_neE x0 x1 x2 x3 y0 y1 y2 y3 W
    rw [← hp] at hne
    obtain ⟨q0, q1, q2, q3⟩ := ent_cells _ _ _ _ hbx
    obtain ⟨z0, z1, z2, z3⟩ := ent_of_range _ _ _ _ q'
    obtain ⟨p, hp⟩ : ∃ p, chP T U i = p := ⟨_, rfl⟩
    rw [hp] at hne
    have HY := Lib.hid (fun h : p = true => (selI_end (chP T U) i).trans (selI_yes (hp.trans h)))
    have HN := Lib.hid (fun h : p = false => (selI_end (chP T U) i).trans (selI_no (hp.trans h)))
    have HV2 := Lib.hid hv
    have HR2 := Lib.hid hrow
    have HB2 := Lib.hid hB'
    have HLE := Lib.hid hle
    clear hp hbx q' hv hrow hB' hle hb1 hb2
    gi_wp2_with fail
    refine region_quiet_inRound l rfl (by kernel_rfl) (by kernel_rfl) (by kernel_rfl) ?_
    repeat (gi_big_quiet_step (fail))
    refine wpQuietIn_nil ?_
    intro _ hw'
    obtain ⟨nq, hw''⟩ := hw'
    subst hw''
    clear hne q0 q1 q2 q3 z0 z1 z2 z3
    have hv : Boxed (W.drewN nq) W0.heap.size 107 v := HV2.out
    have hrow : (W.drewN nq).ownsRow W0.heap.size 3 1 v (selI (chP T U) (List.range i)).length ((selI (chP T U) (List.range i)).map (Value.int .i64)) := HR2.out
    have hB' : Below W0.heap.size W0 (W.drewN nq) := below_tb HB2.out nq
    have hKF : KeepsFrom (w.heap.size + 4) W (W.drewN nq) := ⟨Nat.le_refl _, fun _ _ _ h _ => h⟩
    clear HV2 HR2 HB2
    cases p
    · have HI2 := Lib.hid (show SelI (chP T U) W0 (List.range i ++ [i]) (W.drewN nq) from ⟨⟨v, hv, by rw [HN.out rfl]; exact hrow, trivial⟩, hB'⟩)
      have HKF := Lib.hid hKF
      clear hv hrow hB' hKF
      gi_wp2
      exact ⟨HKF.out, trivial, HI2.out⟩
    · have HY2 := Lib.hid (HY.out rfl)
      have hn0 : W0.heap.size ≤ (W.drewN nq).heap.size := hB'.size
      have HKF := Lib.hid hKF
      clear hKF
      generalize W.drewN nq = W2 at *
      generalize selI (chP T U) (List.range i) = zs at *
      rw [HS.out] at hv hrow hn0
      have hc := hv.cell
      have HB2 := Lib.hid hB'
      clear hB' HN HY
      gi_wp2_with (gi_at_builtin; refine wpListIn_append_own _ rfl _ _ 107 rfl (w.heap.size + 2) 3 i0 (.int .i64 0) 1 8 Try.underlying107 hi hz0 hz1 hz2 rfl (by decide) _ _ _ rfl (hrow.alloc _) ⟨W2.heap.size, 0, none⟩ 1 1 [.int .i64 (i : Nat)] rfl rfl (cell_new1 W2 _ _) (by simp [Value.oneCell']) (by have := HLE.out; unfold maxLen; omega) (by have := HLE.out; omega) (by simp; omega) ?_; intro v2 w2 hown' hgrow _; obtain ⟨g', cap', rfl⟩ := ownsRow_succ hown'; obtain ⟨hv1, hv2, hr2, hk2, hb2⟩ := hv.appended (by decide) hrow hn0 (Nat.le_refl _) hown' hgrow; have hc1 := hv1.cell; have hf1 := hv1.frozen)
      refine ⟨by rw [hsV]; exact HKF.out.trans (hk2.from _), trivial, ?_⟩
      unfold SelI
      rw [HY2.out, HS.out]
      have hB3 := HB2.out
      rw [HS.out] at hB3
      refine ⟨⟨_, hv2, ?_, trivial⟩, hB3.trans hb2⟩
      simpa using hr2

theorem changed_in (n : Nat) (hn : 4 ≤ n) (T U : Nat → Int) (w : World) :
    CallsIn Fence.wide n Try.prog 67 #[tabV T, tabV U] w (RowRet .i64 (selI (chP T U) (List.range 16)) w) :=
  (changed_own n hn T U w).mono fun _ _ ⟨_, he, O, m⟩ => by
    obtain ⟨a', c', rfl⟩ := own_slice O
    exact ⟨a', c', he, Row.of_own O (selI_wf _), m⟩
theorem changed_any (T U : Nat → Int) (w : World) : Calls Try.prog 67 #[tabV T, tabV U] w (RowRet .i64 (selI (chP T U) (List.range 16)) w) :=
  callsIn_wide.1 (changed_in 4 (by omega) T U w)
end Go.Proofs.Ythgoopdekllanaa
