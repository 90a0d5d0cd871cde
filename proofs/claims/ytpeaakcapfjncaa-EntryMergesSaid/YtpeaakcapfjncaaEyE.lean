/- Package entry: Merge, whole. -/
import Derived.Test.YtpeaakcapfjncaaEyC
namespace Go.Proofs.Ytpeaakcapfjncaa
open Go.RowKit Go.Shelf
open SumM

attribute [local go_sem] Oper.semAt_some

theorem right_ok (n : Nat) (hn : 1 ≤ n) (Bs n0 len cap : Nat) (a : Option Addr) (us : List Ent) (hl : us.length = len) (hs : len ≤ 1000) (w : World) (h : n0 ≤ w.heap.size) (hB : Bs < w.heap.size) (hb : w.heap[Bs]? = some (.cells #[.slice a len cap] 24 (0, 0))) (hR : SRow entC 4 n0 w a us) :
    SeqOkG Fence.wide n Try.prog 27 #[.pointer (some ⟨Bs, 0, none⟩)] encE (fun pre x _ => ∃ k, k < len ∧ pre = (us.take k).filter rgE ∧ us[k]? = some x ∧ rgE x = true) (KpB n0) (fun xs => xs = us.filter rgE) (fun _ => True) w :=
  fun l J Jx W hW hN hY h0 => rightIter_in n hn Bs n0 len cap a us hl hs l J Jx W (Nat.le_trans h hW.size) ((hW.block Bs hB).trans hb) (hR.below (hW.mono h)) hN hY h0

/-- Of those that may be alone it is the same. -/
theorem mgS_filter (l : List Ent) (o : Ent × Bool) : (l.filter rgE).foldl mgStep o = l.foldl mgStep o := by
  induction l generalizing o with
  | nil => rfl
  | cons u r ih =>
    by_cases h : rgE u = true
    · rw [List.filter_cons_of_pos h, List.foldl_cons, List.foldl_cons, ih]
    · rw [List.filter_cons_of_neg h, List.foldl_cons, ih]
      congr 1
      simp [mgStep, h]
theorem mgS_ones (l : List Ent) : mgS (l.filter rgE) = mgS l := mgS_filter l _
/-- The newest one so far, or noughts. -/
def nwS (l : List Ent) : Ent := if (mgS l).2 = true then (mgS l).1 else ent0
theorem mgS_right (l : List Ent) : (mgS l).2 = true → rgE (mgS l).1 = true := by
  suffices h : ∀ (l : List Ent) (o : Ent × Bool), (o.2 = true → rgE o.1 = true) → ((l.foldl mgStep o).2 = true → rgE (l.foldl mgStep o).1 = true) from h l _ (by simp)
  intro l
  induction l with
  | nil => exact fun o h => h
  | cons u r ih =>
    intro o h
    refine ih _ ?_
    unfold mgStep
    split
    · rename_i h2
      intro _
      simp only [Bool.and_eq_true] at h2
      exact h2.1
    · exact h
theorem mgS_none (l : List Ent) (h : (mgS l).2 = false) : (mgS l).1 = noEnt := by
  suffices h2 : ∀ (l : List Ent) (o : Ent × Bool), (o.2 = false → o.1 = noEnt) → ((l.foldl mgStep o).2 = false → (l.foldl mgStep o).1 = noEnt) from h2 l _ (by simp) h
  intro l
  induction l with
  | nil => exact fun o h => h
  | cons u r ih =>
    intro o h
    refine ih _ ?_
    unfold mgStep
    split
    · intro h2
      cases h2
    · exact h
theorem ent0_no : rgE ent0 = false := by decide
/-- Nothing is as noughts but where there is none. -/
theorem nwS_zero (l : List Ent) : eqE (nwS l).1 (nwS l).2.1 (nwS l).2.2.1 (nwS l).2.2.2 0 0 0 0 = !(mgS l).2 := by
  unfold nwS
  cases h : (mgS l).2
  · simp [eqE_same]
  · have hr := mgS_right l h
    simp only [if_true, Bool.not_true]
    rw [Bool.eq_false_iff]
    intro hc
    rw [eqE_iff] at hc
    have e : (mgS l).1 = ent0 := hc
    rw [e, ent0_no] at hr
    cases hr

theorem nwS_snoc (l : List Ent) (x : Ent) (hx : rgE x = true) : nwS (l ++ [x]) = if (!(mgS l).2 || decide ((nwS l).2.2.1 < x.2.2.1)) = true then x else nwS l := by
  unfold nwS
  rw [mgS_snoc]
  unfold mgStep
  rw [hx]
  cases h : (mgS l).2
  · simp
  · by_cases h2 : (mgS l).1.2.2.1 < x.2.2.1
    · simp [h2]
    · simp [h2, h]

/-- While those that may be come: the boxes of the one that is missing, of the newest one, of what is handed back. -/
structure MgI (w : World) (pre : List Ent) (W : World) : Prop where
  lo : Below w.heap.size w W
  ret : W.heap[w.heap.size]? = some (.cells #[.int .i64 0, .int .i64 0, .int .i64 0, .int .i64 0] 23 (0, 0))
  mis : W.heap[w.heap.size + 1]? = some (.cells #[.int .i64 0, .int .i64 0, .int .i64 0, .int .i64 0] 23 (0, 0))
  nw : W.heap[w.heap.size + 2]? = some (.cells #[.int .i64 (nwS pre).1, .int .i64 (nwS pre).2.1, .int .i64 (nwS pre).2.2.1, .int .i64 (nwS pre).2.2.2] 23 (0, 0))

theorem mgI_abide (w : World) (B : Nat) (hB : w.heap.size + 3 ≤ B) : Abide4 B (MgI w) where
  far := fun _ W W' h k => ⟨h.lo.trans (k.mono h.lo.size), (k.block _ (Array.getElem?_eq_some_iff.1 h.ret).1).trans h.ret, (k.block _ (Array.getElem?_eq_some_iff.1 h.mis).1).trans h.mis, (k.block _ (Array.getElem?_eq_some_iff.1 h.nw).1).trans h.nw⟩
  turn := fun _ W l o o' h hl _ _ => ⟨h.lo.trans ⟨rfl, rfl, rfl, by simp [World.putObj], fun k hk => World.putObj_heap_other (by omega)⟩, (World.putObj_heap_other (by omega)).trans h.ret, (World.putObj_heap_other (by omega)).trans h.mis, (World.putObj_heap_other (by omega)).trans h.nw⟩

set_option maxRecDepth 100000 in
set_option maxHeartbeats 8000000 in
theorem eMerge_in (n : Nat) (hn : 4 ≤ n) (a : Option Addr) (len cap : Nat) (us : List Ent) (hl : us.length = len) (hs : len ≤ 1000) (w : World) (h : SRow entC 4 w.heap.size w a us) :
    CallsIn Fence.wide n Try.prog 12 #[.slice a len cap] w fun e w' => e = .returned (.agg #[.int .i64 (mgS us).1.1, .int .i64 (mgS us).1.2.1, .int .i64 (mgS us).1.2.2.1, .int .i64 (mgS us).1.2.2.2]) ∧ Below w.heap.size w w' := by
  have h1n : 1 ≤ n := by omega
  refine callsIn_of_wp_marks Try.func12 rfl trivial ?_ rfl
  simp only [Try.ntmps12, List.size_toArray, List.length_cons, List.length_nil, Nat.reduceAdd, Nat.reduceSub, Array.replicate_succ, Array.replicate_zero, List.push_toArray, List.append_toArray, List.nil_append, List.cons_append]
  have M0 : MgI w [] (((w.alloc (.cells #[.int .i64 0, .int .i64 0, .int .i64 0, .int .i64 0] 23)).alloc (.cells #[.int .i64 0, .int .i64 0, .int .i64 0, .int .i64 0] 23)).alloc (.cells #[.int .i64 0, .int .i64 0, .int .i64 0, .int .i64 0] 23)) := by
    refine ⟨(((Below.refl _ w).alloc (Nat.le_refl _) _).alloc (by simp) _).alloc (by simp; omega) _, ?_, ?_, ?_⟩
    · exact (Below.heap_alloc _ _ _ (by simp; omega)).trans ((Below.heap_alloc _ _ _ (by simp)).trans (heap_alloc_new w _))
    · have := heap_alloc_new (w.alloc (.cells #[.int .i64 0, .int .i64 0, .int .i64 0, .int .i64 0] 23)) (.cells #[.int .i64 0, .int .i64 0, .int .i64 0, .int .i64 0] 23)
      rw [World.size_alloc] at this
      exact (Below.heap_alloc _ _ _ (by simp)).trans this
    · have := heap_alloc_new ((w.alloc (.cells #[.int .i64 0, .int .i64 0, .int .i64 0, .int .i64 0] 23)).alloc (.cells #[.int .i64 0, .int .i64 0, .int .i64 0, .int .i64 0] 23)) (.cells #[.int .i64 0, .int .i64 0, .int .i64 0, .int .i64 0] 23)
      rw [World.size_alloc, World.size_alloc] at this
      exact this
  have hs3 : (((w.alloc (.cells #[.int .i64 0, .int .i64 0, .int .i64 0, .int .i64 0] 23)).alloc (.cells #[.int .i64 0, .int .i64 0, .int .i64 0, .int .i64 0] 23)).alloc (.cells #[.int .i64 0, .int .i64 0, .int .i64 0, .int .i64 0] 23)).heap.size = w.heap.size + 3 := by simp
  gi_wp2
  generalize ((w.alloc (.cells #[.int .i64 0, .int .i64 0, .int .i64 0, .int .i64 0] 23)).alloc (.cells #[.int .i64 0, .int .i64 0, .int .i64 0, .int .i64 0] 23)).alloc (.cells #[.int .i64 0, .int .i64 0, .int .i64 0, .int .i64 0] 23) = W0 at *
  refine ⟨trivial, (rightOnes_in (n - 1) a len cap W0).mono ?_⟩
  rintro e w1 ⟨rfl, rfl⟩
  have hbS := heap_alloc_new W0 (.cells #[.slice a len cap] 24)
  have hsV : (W0.alloc (.cells #[.slice a len cap] 24)).heap.size = w.heap.size + 4 := by simp; omega
  have MV := (mgI_abide w (w.heap.size + 3) (Nat.le_refl _)).far _ _ _ M0 ((Below.refl _ W0).alloc (Nat.le_refl _) (.cells #[.slice a len cap] 24))
  rw [hs3] at hbS ⊢
  clear M0 hs3
  gi_wp2
  generalize W0.alloc (.cells #[.slice a len cap] 24) = V at *
  have HR := Lib.hid (h.below MV.lo)
  have HV := Lib.hid MV
  refine range_okG rfl h1n (gf := 27) (lb := #[.pointer (some ⟨w.heap.size + 3, 0, none⟩)]) rfl trivial (enters_of Try.func27 (by kernel_rfl) rfl)
      (right_ok (n - 1) (by omega) (w.heap.size + 3) w.heap.size len cap a us hl hs V (by omega) (by omega) hbS HR.out) (fun _ _ _ _ _ _ h _ _ _ => h) KpB.trans (fun W l o o' h1 h2 h3 h4 _ => belowK_b (w := V) (by omega) W l o o' h1 h2 h3 h4) (fun _ => rfl)
      (MgI w) (fun _ _ _ => False) (mgI_abide w _ (by omega)) (fun _ => Abide4.none _) HV.out
      (fun u => .cells #[.int .i64 u.1, .int .i64 u.2.1, .int .i64 u.2.2.1, .int .i64 u.2.2.2] 23) (fun W x hW => (Below.refl _ W).alloc hW _) (fun _ _ _ h => h)
      (fun u b => { tmps := #[.slice a len cap, undef, .pointer (some ⟨w.heap.size, 0, none⟩), .pointer (some ⟨w.heap.size + 1, 0, none⟩), .pointer (some ⟨w.heap.size + 1 + 1, 0, none⟩), .pointer (some ⟨b, 0, none⟩), .agg #[.int .i64 0, .int .i64 0, .int .i64 0, .int .i64 0], .slice a len cap, .func (.func 27) #[] #[.pointer (some ⟨w.heap.size + 3, 0, none⟩)], .agg #[.int .i64 u.1, .int .i64 u.2.1, .int .i64 u.2.2.1, .int .i64 u.2.2.2], undef, undef, undef, undef, undef, undef, undef, undef, undef, undef, undef, undef, undef, undef], defers := [] }) ?assign ?body ?done ?stop
  case assign =>
    intro l x W K hK
    simp only [encE] at hK ⊢
    gi_wp2
    exact hK
  case stop =>
    rintro D c pre W hD _ h
    exact h.elim
  case done =>
    rintro D ys W hD rfl hm hK
    have HD := Lib.hid (show w.heap.size + 4 ≤ D by omega)
    have hE := nwS_zero (us.filter rgE)
    have hN := mgS_none (us.filter rgE)
    have hw : nwS (us.filter rgE) = if (mgS (us.filter rgE)).2 = true then (mgS (us.filter rgE)).1 else ent0 := rfl
    rw [mgS_ones] at hE hN hw
    have HM := Lib.hid hm.lo
    have hnw := hm.nw
    have hmis := hm.mis
    have hret := hm.ret
    clear hm
    generalize nwS (us.filter rgE) = v at *
    obtain ⟨v0, v1, v2, v3⟩ := v
    simp only at hnw hE
    obtain ⟨z0, z1, z2, z3⟩ := ent_cells _ _ _ _ hmis
    obtain ⟨y0, y1, y2, y3⟩ := ent_cells _ _ _ _ hnw
    obtain ⟨s, hs2⟩ : ∃ s, (mgS us).2 = s := ⟨_, rfl⟩
    rw [hs2] at hE hN hw
    have heq : ∀ W' : World, (Go.binOp .eql 23 (.agg #[.int .i64 v0, .int .i64 v1, .int .i64 v2, .int .i64 v3]) (.agg #[.int .i64 0, .int .i64 0, .int .i64 0, .int .i64 0])).run Try.prog W' = .ok (.bool (!s)) W' := fun W' => hE ▸ run_eqE v0 v1 v2 v3 0 0 0 0 W'
    clear hE hs2
    cases s
    · have HV0 := Lib.hid (hN rfl)
      clear hN hw
      have HW := Lib.hid (And.intro hret hK)
      clear hret hK hnw hmis
      gi_wp2_with fail
      refine ⟨trivial, (callsIn_wide.2 (eNone_any W)).mono ?_⟩
      rintro e w2 ⟨rfl, m2⟩
      have hr2 := (m2.block _ (Array.getElem?_eq_some_iff.1 HW.out.1).1).trans HW.out.1
      have hk2 := (m2.block _ (Array.getElem?_eq_some_iff.1 HW.out.2).1).trans HW.out.2
      have L2 := HM.out.trans (m2.mono HM.out.size)
      clear z0 z1 z2 z3 y0 y1 y2 y3 heq m2 HW
      obtain ⟨q0, q1, q2, q3⟩ := ent_cells _ _ _ _ hr2
      have f0 := ent_frozen hr2 0
      have f1 := ent_frozen hr2 1
      have f2 := ent_frozen hr2 2
      have f3 := ent_frozen hr2 3
      have HS := Lib.hid (full_setCells hr2 [.int .i64 (-1), .int .i64 (-1), .int .i64 0, .int .i64 0] rfl)
      have HK := Lib.hid ((others_setCells w.heap.size [.int .i64 (-1), .int .i64 (-1), .int .i64 0, .int .i64 0] 0 w2).same D _ hk2 rfl)
      have HB := Lib.hid (below_setCells w.heap.size (Nat.le_refl _) [.int .i64 (-1), .int .i64 (-1), .int .i64 0, .int .i64 0] 0 w _ L2)
      clear hr2 hk2 L2
      gi_wp2
      refine ⟨by simp, .inl ⟨_, _, rfl, run_takeDeferred HK.out, ?_⟩⟩
      refine ⟨_, results_ent rfl _ _ w.heap.size _ (0, 0) rfl ((World.putObj_heap_other (by have := HD.out; omega)).trans HS.out) rfl, ?_, HB.out.trans (belowK_b (w := w) (Nat.le_refl _) _ D _ _ (by have := HD.out; omega) HK.out rfl rfl)⟩
      rw [HV0.out]
    · have HV0 := Lib.hid (show (v0, v1, v2, v3) = (mgS us).1 from hw)
      clear hN hw
      have HW := Lib.hid (And.intro hret hK)
      obtain ⟨q0, q1, q2, q3⟩ := ent_cells _ _ _ _ hret
      have f0 := ent_frozen hret 0
      have f1 := ent_frozen hret 1
      have f2 := ent_frozen hret 2
      have f3 := ent_frozen hret 3
      have HS := Lib.hid (full_setCells hret [.int .i64 v0, .int .i64 v1, .int .i64 v2, .int .i64 v3] rfl)
      have HK := Lib.hid ((others_setCells w.heap.size [.int .i64 v0, .int .i64 v1, .int .i64 v2, .int .i64 v3] 0 W).same D _ hK rfl)
      have HB := Lib.hid (below_setCells w.heap.size (Nat.le_refl _) [.int .i64 v0, .int .i64 v1, .int .i64 v2, .int .i64 v3] 0 w _ HM.out)
      clear hret hK hnw hmis HM
      gi_wp2
      refine ⟨by simp, .inl ⟨_, _, rfl, run_takeDeferred HK.out, ?_⟩⟩
      refine ⟨_, results_ent rfl _ _ w.heap.size _ (0, 0) rfl ((World.putObj_heap_other (by have := HD.out; omega)).trans HS.out) rfl, ?_, HB.out.trans (belowK_b (w := w) (Nat.le_refl _) _ D _ _ (by have := HD.out; omega) HK.out rfl rfl)⟩
      rw [← HV0.out]
  case body =>
    rintro l pre ⟨x1, x2, x3, x4⟩ W b hm ⟨k, hk, hpre, hx, hr⟩ hb1 hb2 hbx
    have hsn := nwS_snoc pre (x1, x2, x3, x4) hr
    have hE := nwS_zero pre
    clear hpre hx hr
    have hlo := hm.lo
    have hnw := hm.nw
    have hmis := hm.mis
    have hret := hm.ret
    clear hm
    generalize nwS pre = v at *
    obtain ⟨v0, v1, v2, v3⟩ := v
    simp only at hnw hE hsn
    obtain ⟨s, hs2⟩ : ∃ s, (mgS pre).2 = s := ⟨_, rfl⟩
    obtain ⟨t, ht⟩ : ∃ t, decide (v2 < x3) = t := ⟨_, rfl⟩
    rw [hs2] at hE
    simp only [hs2, ht] at hsn
    have KN := Lib.hid (fun W' => ht ▸ eNewer_any x1 x2 x3 x4 v0 v1 v2 v3 W')
    have heq : ∀ W' : World, (Go.binOp .eql 23 (.agg #[.int .i64 v0, .int .i64 v1, .int .i64 v2, .int .i64 v3]) (.agg #[.int .i64 0, .int .i64 0, .int .i64 0, .int .i64 0])).run Try.prog W' = .ok (.bool (!s)) W' := fun W' => hE ▸ run_eqE v0 v1 v2 v3 0 0 0 0 W'
    obtain ⟨q0, q1, q2, q3⟩ := ent_cells _ _ _ _ hbx
    obtain ⟨z0, z1, z2, z3⟩ := ent_cells _ _ _ _ hmis
    obtain ⟨y0, y1, y2, y3⟩ := ent_cells _ _ _ _ hnw
    have HS := Lib.hid hsn
    have HVs := Lib.hid hsV
    clear hE hs2 ht hsn
    have hxb := hbx
    have ST : Hid (∀ W2, Below W.heap.size W W2 → nwS (pre ++ [(x1, x2, x3, x4)]) = (x1, x2, x3, x4) → KeepsFrom V.heap.size W ((((W2.setCell ⟨w.heap.size + 2, 0, none⟩ (.int .i64 x1)).setCell ⟨w.heap.size + 2, 1, none⟩ (.int .i64 x2)).setCell ⟨w.heap.size + 2, 2, none⟩ (.int .i64 x3)).setCell ⟨w.heap.size + 2, 3, none⟩ (.int .i64 x4)) ∧
        KpB w.heap.size W ((((W2.setCell ⟨w.heap.size + 2, 0, none⟩ (.int .i64 x1)).setCell ⟨w.heap.size + 2, 1, none⟩ (.int .i64 x2)).setCell ⟨w.heap.size + 2, 2, none⟩ (.int .i64 x3)).setCell ⟨w.heap.size + 2, 3, none⟩ (.int .i64 x4)) ∧
        MgI w (pre ++ [(x1, x2, x3, x4)]) ((((W2.setCell ⟨w.heap.size + 2, 0, none⟩ (.int .i64 x1)).setCell ⟨w.heap.size + 2, 1, none⟩ (.int .i64 x2)).setCell ⟨w.heap.size + 2, 2, none⟩ (.int .i64 x3)).setCell ⟨w.heap.size + 2, 3, none⟩ (.int .i64 x4))) := Lib.hid (by
      intro W2 m2 hnx
      have o := others_setCells (w.heap.size + 2) [.int .i64 x1, .int .i64 x2, .int .i64 x3, .int .i64 x4] 0 W2
      have hnw2 := (m2.block _ (Array.getElem?_eq_some_iff.1 hnw).1).trans hnw
      have hmis2 := (m2.block _ (Array.getElem?_eq_some_iff.1 hmis).1).trans hmis
      have hret2 := (m2.block _ (Array.getElem?_eq_some_iff.1 hret).1).trans hret
      have L2 := hlo.trans (m2.mono hlo.size)
      refine ⟨⟨Nat.le_trans m2.size o.size, fun k o' _ hk ho => o.same k o' ((m2.block k (Array.getElem?_eq_some_iff.1 hk).1).trans hk) ho⟩, fun hW => below_setCells (w.heap.size + 2) (by omega) [.int .i64 x1, .int .i64 x2, .int .i64 x3, .int .i64 x4] 0 W _ (m2.mono hW), ⟨below_setCells (w.heap.size + 2) (by omega) [.int .i64 x1, .int .i64 x2, .int .i64 x3, .int .i64 x4] 0 w _ L2, ?_, ?_, ?_⟩⟩
      · exact ((((Below.heap_setCell _ _ _ _ (by simp)).trans (Below.heap_setCell _ _ _ _ (by simp))).trans (Below.heap_setCell _ _ _ _ (by simp))).trans (Below.heap_setCell _ _ _ _ (by simp))).trans hret2
      · exact ((((Below.heap_setCell _ _ _ _ (by simp)).trans (Below.heap_setCell _ _ _ _ (by simp))).trans (Below.heap_setCell _ _ _ _ (by simp))).trans (Below.heap_setCell _ _ _ _ (by simp))).trans hmis2
      · rw [hnx]
        exact full_setCells hnw2 [.int .i64 x1, .int .i64 x2, .int .i64 x3, .int .i64 x4] rfl)
    have SK : Hid (∀ W2, Below W.heap.size W W2 → nwS (pre ++ [(x1, x2, x3, x4)]) = (v0, v1, v2, v3) → KeepsFrom V.heap.size W W2 ∧ KpB w.heap.size W W2 ∧ MgI w (pre ++ [(x1, x2, x3, x4)]) W2) := Lib.hid (by
      intro W2 m2 hnx
      refine ⟨⟨m2.size, fun k o' _ hk _ => (m2.block k (Array.getElem?_eq_some_iff.1 hk).1).trans hk⟩, fun hW => m2.mono hW, ⟨hlo.trans (m2.mono hlo.size), (m2.block _ (Array.getElem?_eq_some_iff.1 hret).1).trans hret, (m2.block _ (Array.getElem?_eq_some_iff.1 hmis).1).trans hmis, ?_⟩⟩
      rw [hnx]
      exact (m2.block _ (Array.getElem?_eq_some_iff.1 hnw).1).trans hnw)
    have CF := Lib.hid (fun W2 (m2 : Below W.heap.size W W2) => And.intro ((m2.block _ (Array.getElem?_eq_some_iff.1 hbx).1).trans hbx) ((m2.block _ (Array.getElem?_eq_some_iff.1 hnw).1).trans hnw))
    have FR := Lib.hid (fun i => ent_frozen hnw i)
    clear hlo hnw hmis hret hbx hxb
    cases s
    · have hnx := Lib.hid (show nwS (pre ++ [(x1, x2, x3, x4)]) = (x1, x2, x3, x4) from HS.out)
      have f0 := FR.out 0
      have f1 := FR.out 1
      have f2 := FR.out 2
      have f3 := FR.out 3
      gi_wp2
      refine ⟨trivial, ?_⟩
      apply_assumption
      gi_wp2
      exact ST.out W (Below.refl _ _) hnx.out
    · gi_wp2_with fail
      refine ⟨trivial, (fun _ => by omega), CallsIn.inRound l (callsIn_wide.2 ((KN.out W).mono ?_))⟩
      rintro e w2 ⟨rfl, m2⟩
      obtain ⟨hbx2, hnw2⟩ := CF.out w2 m2
      have HM2 := Lib.hid m2
      clear q0 q1 q2 q3 z0 z1 z2 z3 y0 y1 y2 y3 heq m2 KN
      obtain ⟨q0, q1, q2, q3⟩ := ent_cells _ _ _ _ hbx2
      obtain ⟨y0, y1, y2, y3⟩ := ent_cells _ _ _ _ hnw2
      have f0 := ent_frozen hnw2 0
      have f1 := ent_frozen hnw2 1
      have f2 := ent_frozen hnw2 2
      have f3 := ent_frozen hnw2 3
      clear hbx2 hnw2
      cases t
      · have hnx := Lib.hid (show nwS (pre ++ [(x1, x2, x3, x4)]) = (v0, v1, v2, v3) from HS.out)
        gi_wp2
        exact SK.out w2 HM2.out hnx.out
      · have hnx := Lib.hid (show nwS (pre ++ [(x1, x2, x3, x4)]) = (x1, x2, x3, x4) from HS.out)
        gi_wp2
        exact ST.out w2 HM2.out hnx.out

theorem eMerge_any (a : Option Addr) (len cap : Nat) (us : List Ent) (hl : us.length = len) (hs : len ≤ 1000) (w : World) (h : SRow entC 4 w.heap.size w a us) :
    Calls Try.prog 12 #[.slice a len cap] w fun e w' => e = .returned (.agg #[.int .i64 (mgS us).1.1, .int .i64 (mgS us).1.2.1, .int .i64 (mgS us).1.2.2.1, .int .i64 (mgS us).1.2.2.2]) ∧ Below w.heap.size w w' :=
  callsIn_wide.1 (eMerge_in 4 (by omega) a len cap us hl hs w h)
end Go.Proofs.Ytpeaakcapfjncaa
