/- slices.AppendSeq, slices.Collect over the tuples of a slice. -/
import Derived.Test.YtpbheonapgckfaaDoorTupV
namespace Go.Proofs.YtpbheonapgckfaaDoor
open Go.RowKit Go.Shelf
open SumM

attribute [local go_sem] Oper.semAt_some

theorem new4_cells (W : World) (x1 x2 x3 x4 : Int) (t : TypeId) : ∀ j u, ([.int .u32 x1, .int .u32 x2, .int .u16 x3, .int .u16 x4] : List Value)[j]? = some u → (W.alloc (.cells #[.int .u32 x1, .int .u32 x2, .int .u16 x3, .int .u16 x4] t)).cell? ((⟨W.heap.size, 0, none⟩ : Addr).add j) = some u := by
  intro j u hu
  rw [addr_add, cell_of_row _ _ _ _ _ _ (heap_alloc_new W _)]
  simpa using hu

set_option maxRecDepth 100000 in
set_option maxHeartbeats 4000000 in
theorem appendSeqT_in (n : Nat) (hn : 3 ≤ n) (Bs len cap : Nat) (a : Option Addr) (us : List Tup) (hl : us.length = len) (hs : len ≤ 1000) (w : World) (hB : Boxed w Bs 27 (.slice a len cap)) (hR : TRow w.heap.size w a us) :
    CallsIn Fence.wide n Tryd.prog 47 #[.slice none 0 0, .func (.func 42) #[] #[.pointer (some ⟨Bs, 0, none⟩)]] w fun e w' =>
      ∃ v', e = .returned v' ∧ w'.ownsRow w.heap.size 25 4 v' len (flatT us) ∧ Below w.heap.size w w' := by
  have h1 : 1 ≤ n := by omega
  have HL := Lib.hid hl
  obtain ⟨i0, hi, hz0, hz1, hz2⟩ := info_parts Tryd.infoTup4
  refine callsIn_of_wp_marks Tryd.func47 rfl trivial ?_ rfl
  simp only [Tryd.ntmps47, List.size_toArray, List.length_cons, List.length_nil, Nat.reduceAdd, Nat.reduceSub, Array.replicate_succ, Array.replicate_zero, List.push_toArray, List.append_toArray, List.nil_append, List.cons_append]
  gi_wp2
  have bS := Boxed.new w 27 (.slice none 0 0)
  have bN := hB.alloc (.cells #[.slice none 0 0] 27)
  have L0 : Below w.heap.size w (w.alloc (.cells #[.slice none 0 0] 27)) := (Below.refl _ w).alloc (Nat.le_refl _) _
  have hne : Bs ≠ w.heap.size := by have := hB.lt; omega
  refine wpIn_rangeFunc_ownH rfl h1 (gf := 42) (lb := #[.pointer (some ⟨Bs, 0, none⟩)]) rfl trivial (enters_of Tryd.func42 (by kernel_rfl) rfl)
    (valsT_stops (n - 1) (by omega) Bs w.heap.size len cap a us hl hs _ (by simp) bN (hR.below L0)) keep_t (keep_b (by simp)) (Below.refl _ _) (fun _ => rfl)
    (fun pre W => ((∃ v', Boxed W w.heap.size 27 v' ∧ W.ownsRow w.heap.size 25 4 v' pre.length (flatT pre) ∧ True) ∧ Boxed W Bs 27 (.slice a len cap)) ∧ Below w.heap.size w W)
    (fun _ _ _ => False)
    (OwnFrom.and (OwnFrom.and (Own.from (holdsRow_own w.heap.size w.heap.size 27 25 4 (fun pre : List Tup => pre.length) (fun pre => flatT pre) (fun _ _ => True)) _) (Own.from (boxed_own _ _ _) _)) (ownFrom_below (Nat.le_refl _) (by simp)))
    (fun _ _ _ _ _ hs _ _ => hs)
    ⟨⟨⟨_, bS, World.ownsRow_nil _ _ _ _, trivial⟩, bN⟩, L0⟩
    (fun x a' W => ∃ Bx, W.heap[Bx]? = some (.cells #[.int .u32 x.1, .int .u32 x.2.1, .int .u16 x.2.2.1, .int .u16 x.2.2.2] 25 (0, 0)) ∧ a' = { tmps := #[.slice none 0 0, .func (.func 42) #[] #[.pointer (some ⟨Bs, 0, none⟩)], .pointer (some ⟨w.heap.size, 0, none⟩), undef, .slice none 0 0, .pointer (some ⟨Bx, 0, none⟩), .func (.func 42) #[] #[.pointer (some ⟨Bs, 0, none⟩)], .agg #[.int .u32 x.1, .int .u32 x.2.1, .int .u16 x.2.2.1, .int .u16 x.2.2.2], undef, undef, undef, undef, undef], defers := [] }) ?ax ?assign ?body ?done ?stop
  case ax =>
    rintro x a' u W W' row ⟨Bx, h2, h3⟩ hg hr
    exact ⟨Bx, (hg.block Bx (Array.getElem?_eq_some_iff.1 h2).1 (fun e => by obtain ⟨o, ho, hc⟩ := (hr _ e.symm).2; rw [h2] at ho; cases ho; cases hc)).trans h2, h3⟩
  case assign =>
    rintro l pre ⟨x1, x2, x3, x4⟩ W K ⟨⟨⟨v, hv, hrow, _⟩, hbn⟩, hB'⟩ hK
    gi_wp2
    exact hK _ _ ((KeepsOthers.alloc _ _).from _) (Keep.grown hB'.size (World.grownBy_alloc W _ none)) ⟨⟨⟨v, hv.alloc _, hrow.alloc _, trivial⟩, hbn.alloc _⟩, hB'.alloc hB'.size _⟩ ⟨W.heap.size, heap_alloc_new W _, rfl⟩
  case body =>
    rintro l pre ⟨x1, x2, x3, x4⟩ a' W hl ⟨r, hr⟩ ⟨⟨⟨v, hv, hrow, _⟩, hbn⟩, hB'⟩ ⟨Bx, hBx, rfl⟩ hlt
    have hc := hv.cell
    obtain ⟨q0, q1, q2, q3⟩ := tup_cells _ _ _ _ hBx
    have hpl : pre.length < len := hlt
    gi_wp2_with (gi_at_builtin; refine wpListIn_append_own _ rfl _ _ 27 rfl w.heap.size 25 i0 (.agg #[.int .u32 0, .int .u32 0, .int .u16 0, .int .u16 0]) 4 12 Tryd.underlying27 hi hz0 hz1 hz2 rfl (by decide) _ _ _ rfl (hrow.alloc _) ⟨W.heap.size, 0, none⟩ 1 1 [.int .u32 x1, .int .u32 x2, .int .u16 x3, .int .u16 x4] rfl rfl (new4_cells W x1 x2 x3 x4 _) (by simp [Value.oneCell']) (by unfold maxLen; omega) (by omega) (by have := hB'.size; simp; omega) ?_; intro v2 w2 hown' hgrow _; obtain ⟨g', cap', rfl⟩ := ownsRow_succ hown'; obtain ⟨hv1, hv2, hr2, hk2, hb2⟩ := hv.appended (by decide) hrow hB'.size (Nat.le_refl _) hown' hgrow; have hn2 : Boxed w2 Bs 27 (.slice a len cap) := (hbn.alloc _).kept hgrow (hbn.not_row (by decide) hrow); have hc1 := hv1.cell; have hf1 := hv1.frozen)
    have hn3 := hn2.other (B' := w.heap.size) hne (.slice (some ⟨g', 0, none⟩) (pre.length + 1) cap')
    have hf : flatT (pre ++ [(x1, x2, x3, x4)]) = flatT pre ++ [.int .u32 x1, .int .u32 x2, .int .u16 x3, .int .u16 x4] := by rw [flatT_append]; rfl
    have hlen : (pre ++ [(x1, x2, x3, x4)]).length = pre.length + 1 := by simp
    rw [← hf] at hr2
    refine ⟨hk2.from _, ⟨hb2, fun b hb o ho _ => ?_⟩, ⟨⟨_, hv2, by rw [hlen]; exact hr2⟩, hn3⟩, hB'.trans hb2⟩
    simp at hb
    subst hb
    rw [show W.heap[b]? = _ from hbn] at ho
    rw [← ho]
    exact hn3
  case done =>
    rintro D ys W hD hys ⟨⟨⟨v', hv, hrow, _⟩, _⟩, hB'⟩ hK
    have hc := hv.cell
    have HY := Lib.hid hys
    clear hys
    gi_wp2
    refine ⟨by simp, .inl ⟨_, _, rfl, run_takeDeferred hK, ?_⟩⟩
    have hrow' := ownsRow_putObj hrow (.deferred none) hK rfl
    have hbb := hB'.trans (belowK_b (w := w) (Nat.le_refl _) W D _ (.deferred none) (by simp at hD; omega) hK rfl rfl)
    rw [HY.out, HL.out] at hrow'
    exact ⟨_, results_tmp rfl _ _ _, v', rfl, hrow', hbb⟩
  case stop =>
    rintro D c pre W _ _ h _
    exact h.elim
end Go.Proofs.YtpbheonapgckfaaDoor
