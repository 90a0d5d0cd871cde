/- Package entry: Holders, whole: slices.AppendSeq, slices.Collect over the holders. -/
import Derived.Test.YtpeaakcapfjncaaEyC
namespace Go.Proofs.Ytpeaakcapfjncaa
open Go.RowKit Go.Shelf
open SumM

attribute [local go_sem] Oper.semAt_some

theorem hol_ok (n : Nat) (hn : 1 ≤ n) (B n0 : Nat) (hB : B < n0) (ec ep eg et : Int) (w : World) (h : n0 ≤ w.heap.size) (hb : w.heap[B]? = some (.cells #[.int .i64 ec, .int .i64 ep, .int .i64 eg, .int .i64 et] 23 (0, 0))) :
    SeqOk Fence.wide n Try.prog 29 #[.pointer (some ⟨B, 0, none⟩)] encI (fun pre x _ => HolOk (hols ec ep) pre x) (Below n0) (fun xs => xs = hols ec ep) (fun _ => True) w :=
  fun l J Jx W hW _ hY h0 => holIter_in n hn B n0 hB ec ep eg et l J Jx W ((hW.block B (by omega)).trans hb) hY h0

def ApI (w : World) (pre : List Int) (W : World) : Prop := (∃ v', Boxed W w.heap.size 31 v' ∧ W.ownsRow w.heap.size 3 1 v' pre.length (pre.map (Value.int .i64)) ∧ True) ∧ Below w.heap.size w W
theorem apI_abide (w : World) (B : Nat) (hB : w.heap.size + 1 ≤ B) : Abide3 B (ApI w) :=
  Abide3.of_own (OwnFrom.and (Own.from (holdsRow_own w.heap.size w.heap.size 31 3 1 (fun pre : List Int => pre.length) (fun pre => pre.map (Value.int .i64)) (fun _ _ => True)) _) (ownFrom_below (Nat.le_refl _) (by omega)))

set_option maxRecDepth 100000 in
set_option maxHeartbeats 4000000 in
theorem appendSeqI_in (n : Nat) (hn : 3 ≤ n) (B : Nat) (ec ep eg et : Int) (w : World) (hb : w.heap[B]? = some (.cells #[.int .i64 ec, .int .i64 ep, .int .i64 eg, .int .i64 et] 23 (0, 0))) :
    CallsIn Fence.wide n Try.prog 28 #[.slice none 0 0, .func (.func 29) #[] #[.pointer (some ⟨B, 0, none⟩)]] w fun e w' =>
      ∃ v', e = .returned v' ∧ w'.ownsRow w.heap.size 3 1 v' (hols ec ep).length ((hols ec ep).map (Value.int .i64)) ∧ Below w.heap.size w w' := by
  have h1n : 1 ≤ n := by omega
  have hBw : B < w.heap.size := (Array.getElem?_eq_some_iff.1 hb).1
  obtain ⟨i0, hi, hz0, hz1, hz2⟩ := info_parts Try.infoInt
  refine callsIn_of_wp_marks Try.func28 rfl trivial ?_ rfl
  simp only [Try.ntmps28, List.size_toArray, List.length_cons, List.length_nil, Nat.reduceAdd, Nat.reduceSub, Array.replicate_succ, Array.replicate_zero, List.push_toArray, List.append_toArray, List.nil_append, List.cons_append]
  gi_wp2
  have bS := Boxed.new w 31 (.slice none 0 0)
  have L0 : Below w.heap.size w (w.alloc (.cells #[.slice none 0 0] 31)) := (Below.refl _ w).alloc (Nat.le_refl _) _
  have hs : (w.alloc (.cells #[.slice none 0 0] 31)).heap.size = w.heap.size + 1 := by simp
  have hb0 := (Below.heap_alloc w (.cells #[.slice none 0 0] 31) B hBw).trans hb
  refine range_ok rfl h1n (gf := 29) (lb := #[.pointer (some ⟨B, 0, none⟩)]) rfl trivial (enters_of Try.func29 (by kernel_rfl) rfl)
      (hol_ok (n - 1) (by omega) B w.heap.size hBw ec ep eg et _ (by omega) hb0) (fun _ _ _ _ _ _ h _ _ _ => h) (fun h k => h.trans k) (belowK_b (by omega)) (fun _ => rfl)
      (ApI w) (fun _ _ _ => False) (apI_abide w _ (by omega)) (fun _ => ⟨fun _ _ _ h => h, fun _ _ _ _ _ h _ _ _ => h⟩) ⟨⟨_, bS, World.ownsRow_nil _ _ _ _, trivial⟩, L0⟩
      (fun u => { tmps := #[.slice none 0 0, .func (.func 29) #[] #[.pointer (some ⟨B, 0, none⟩)], .pointer (some ⟨w.heap.size, 0, none⟩), undef, .slice none 0 0, .int .i64 u, .func (.func 29) #[] #[.pointer (some ⟨B, 0, none⟩)], .int .i64 u, undef, undef, undef, undef, undef], defers := [] }) ?assign ?body ?done ?stop
  case assign =>
    intro l x W K hK
    simp only [encI] at hK ⊢
    gi_wp2
    exact hK
  case stop =>
    rintro D c pre W hD _ h
    exact h.elim
  case done =>
    rintro D ys W hD rfl ⟨⟨v', hv, hrow, _⟩, hB'⟩ hK
    have hc := hv.cell
    gi_wp2
    refine ⟨by simp, .inl ⟨_, _, rfl, run_takeDeferred hK, ?_⟩⟩
    have hrow' := ownsRow_putObj hrow (.deferred none) hK rfl
    have hbb := hB'.trans (belowK_b (w := w) (Nat.le_refl _) W D _ (.deferred none) (by simp at hD; omega) hK rfl rfl)
    exact ⟨_, results_tmp rfl _ _ _, v', rfl, hrow', hbb⟩
  case body =>
    rintro l pre x W ⟨⟨v, hv, hrow, _⟩, hB'⟩ hx
    have hc := hv.cell
    have hpl : pre.length < 2 := Nat.lt_of_lt_of_le (List.getElem?_eq_some_iff.1 hx.2).1 (hols_len ec ep)
    gi_wp2_with (gi_at_builtin; refine wpListIn_append_own _ rfl _ _ 31 rfl w.heap.size 3 i0 (.int .i64 0) 1 8 Try.underlying31 hi hz0 hz1 hz2 rfl (by decide) _ _ _ rfl (hrow.alloc _) ⟨W.heap.size, 0, none⟩ 1 1 [.int .i64 x] rfl rfl (cell_new1 W x _) (by simp [Value.oneCell']) (by unfold maxLen; omega) (by omega) (by have := hB'.size; simp; omega) ?_; intro v2 w2 hown' hgrow _; obtain ⟨g', cap', rfl⟩ := ownsRow_succ hown'; obtain ⟨hv1, hv2, hr2, hk2, hb2⟩ := hv.appended (by decide) hrow hB'.size (Nat.le_refl _) hown' hgrow; have hc1 := hv1.cell; have hf1 := hv1.frozen)
    have hf : (pre ++ [x]).map (Value.int .i64) = pre.map (Value.int .i64) ++ [.int .i64 x] := by simp
    have hlen : (pre ++ [x]).length = pre.length + 1 := by simp
    rw [← hf] at hr2
    exact ⟨hk2.from _, hb2, ⟨_, hv2, by rw [hlen]; exact hr2, trivial⟩, hB'.trans hb2⟩

theorem collectI_any (B : Nat) (ec ep eg et : Int) (w : World) (hb : w.heap[B]? = some (.cells #[.int .i64 ec, .int .i64 ep, .int .i64 eg, .int .i64 et] 23 (0, 0))) :
    Calls Try.prog 25 #[.func (.func 29) #[] #[.pointer (some ⟨B, 0, none⟩)]] w fun e w' =>
      ∃ v', e = .returned v' ∧ w'.ownsRow w.heap.size 3 1 v' (hols ec ep).length ((hols ec ep).map (Value.int .i64)) ∧ Below w.heap.size w w' := by
  go_enter Try.func25, Try.ntmps25
  go_wp2_with fail
  refine (callsIn_wide.1 (appendSeqI_in 3 (by omega) B ec ep eg et w hb)).mono ?_
  rintro e w1 ⟨v', rfl, O1, m1⟩
  have HO := Lib.hid O1
  have HM := Lib.hid m1
  clear O1 m1
  go_wp2
  go_ret
  exact ⟨v', rfl, HO.out, HM.out⟩

theorem hols_in {ec ep : Int} (h1 : I64 ec) (h2 : I64 ep) : ∀ n ∈ hols ec ep, (Lit.int .i64 n).wf = true := by
  intro n hn
  unfold hols at hn
  have : n = ec ∨ n = ep := by
    rcases List.mem_append.1 hn with h | h
    · split at h <;> simp_all
    · split at h <;> simp_all
  rcases this with rfl | rfl
  · exact wf_i64.2 h1
  · exact wf_i64.2 h2

set_option maxRecDepth 100000 in
theorem eHolders_any (ec ep eg et : Int) (H : Ent.ok (ec, ep, eg, et)) (w : World) :
    Calls Try.prog 17 #[.agg #[.int .i64 ec, .int .i64 ep, .int .i64 eg, .int .i64 et]] w (RowRet .i64 (hols ec ep) w) := by
  have bE := heap_alloc_new w (.cells #[.int .i64 ec, .int .i64 ep, .int .i64 eg, .int .i64 et] 23)
  have L0 := Lib.hid ((Below.refl w.heap.size w).alloc (Nat.le_refl _) (.cells #[.int .i64 ec, .int .i64 ep, .int .i64 eg, .int .i64 et] 23))
  obtain ⟨q0, q1, q2, q3⟩ := ent_cells _ _ _ _ bE
  have W1 := Lib.hid (hols_in H.h1 H.h2)
  clear H
  go_enter Try.func17, Try.ntmps17
  go_wp2_with fail
  generalize w.alloc (.cells #[.int .i64 ec, .int .i64 ep, .int .i64 eg, .int .i64 et] 23) = W0 at *
  refine (callsIn_wide.1 (holders_in 1 ec ep eg et W0)).mono ?_
  rintro e w1 ⟨rfl, rfl⟩
  have bX := heap_alloc_new W0 (.cells #[.int .i64 ec, .int .i64 ep, .int .i64 eg, .int .i64 et] 23)
  have L1 := Lib.hid (L0.out.alloc L0.out.size (.cells #[.int .i64 ec, .int .i64 ep, .int .i64 eg, .int .i64 et] 23))
  clear bE L0 q0 q1 q2 q3
  generalize W0.alloc (.cells #[.int .i64 ec, .int .i64 ep, .int .i64 eg, .int .i64 et] 23) = V at *
  generalize W0.heap.size = b at *
  have KC := Lib.hid (collectI_any b ec ep eg et V bX)
  clear bX
  go_wp2_with fail
  refine KC.out.mono ?_
  rintro e w2 ⟨v', rfl, O2, m2⟩
  obtain ⟨a1, c1, rfl⟩ := own_slice O2
  have HO := Lib.hid O2
  have HM := Lib.hid m2
  clear O2 m2 KC
  go_wp2
  go_ret
  exact ⟨a1, c1, rfl, Row.of_own HO.out W1.out, L1.out.trans (HM.out.mono L1.out.size)⟩
end Go.Proofs.Ytpeaakcapfjncaa
