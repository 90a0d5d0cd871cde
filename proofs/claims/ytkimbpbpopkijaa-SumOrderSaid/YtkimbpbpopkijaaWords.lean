/- What 'handfast/sum.Words' answers, at every list of at most 8000000 bytes: a slice of its own that holds the words. -/
import Derived.Test.YtkimbpbpopkijaaSum
namespace Go.Proofs.Ytkimbpbpopkijaa
open Go.RowKit Go.Shelf
open SumM

attribute [local go_sem] Oper.semAt_some

/-- What is owned is a slice value. -/
theorem own_slice {w : World} {base : Nat} {e : TypeId} {v : Value} {n : Nat} {xs : List Value} (h : w.ownsRow base e 1 v n xs) : ∃ a c, v = .slice a n c := by
  rcases h.2 with ⟨rfl, rfl⟩ | ⟨g, cap, cur, rfl, _⟩
  · have := h.1
    simp at this
    subst this
    exact ⟨_, _, rfl⟩
  · exact ⟨_, _, rfl⟩
theorem in_wf16 {l : List Int} (h : In 65535 l) : ∀ n ∈ l, (Lit.int .u16 n).wf = true := fun n hn => wf_u16.2 (h n hn)

theorem Try.infoU16 : (Try.prog.info? 24).map (fun i => (i.zero, i.size, i.bytes)) = some (some (.int .u16 0), 1, 2) := by kernel_rfl

set_option maxRecDepth 100000 in
set_option maxHeartbeats 2000000 in
theorem words_in' (F : Fence) (n : Nat) (h10 : F.fn 10) (h22 : F.fn 22) (h24 : F.fn 24) (hro : F.round = none) (hn : 3 ≤ n)
    (a : Option Addr) (len cap : Nat) (bs : List Int) (hl : bs.length = len) (hs : len ≤ 8000000) (w : World) (hR : Row .u8 w.heap.size w a bs) :
    CallsIn F n Try.prog 10 #[.slice a len cap] w (RowRet .u16 (words bs) w) := by
  have h1 : 1 ≤ n := by omega
  have hin : In 255 bs := fun x hx => wf_u8.1 (hR.1 x hx)
  have HL := Lib.hid hl
  clear hl
  obtain ⟨i0, hi, hz0, hz1, hz2⟩ := info_parts Try.infoU16
  have hlen : len / 2 + len % 2 = (len + 1) / 2 := by omega
  have HN := Lib.hid hlen
  clear hlen
  refine callsIn_of_wp_marks Try.func10 rfl h10 ?_ hro
  simp only [Try.ntmps10, List.size_toArray, List.length_cons, List.length_nil, Nat.reduceAdd, Nat.reduceSub, Array.replicate_succ, Array.replicate_zero, List.push_toArray, List.append_toArray, List.nil_append, List.cons_append]
  gi_wp2_with (first
    | (gi_at_make; refine wpListIn_make_own _ rfl _ _ 23 rfl w.heap.size 24 i0 (.int .u16 0) 1 Try.underlying23 hi hz0 hz1 .i64 .i64 _ (len / 2 + len % 2) rfl rfl (by omega) (by rw [hz2]; omega) (by unfold maxLen; omega) (Nat.le_refl _) ?_; intro w1 hown1 hgrow1)
    | (gi_at_call 22; refine (wordsOf_in F (n - 1) h22 hro _ _ _ _).mono ?_; rintro e w' ⟨rfl, rfl⟩))
  have hz : w.heap.size ≤ w1.heap.size := hgrow1.size
  have hBw1 : Below w.heap.size w w1 := (Below.refl _ w).grown hgrow1 (Nat.le_refl _) (fun k e => by cases e)
  have bO := Boxed.new w1 23 (.slice (some ⟨w.heap.size, 0, none⟩) 0 (len / 2 + len % 2))
  have bN := Boxed.new (w1.alloc (.cells #[.slice (some ⟨w.heap.size, 0, none⟩) 0 (len / 2 + len % 2)] 23)) 22 (.slice a len cap)
  rw [World.size_alloc] at bN
  have hB0 : Below w.heap.size w ((w1.alloc (.cells #[.slice (some ⟨w.heap.size, 0, none⟩) 0 (len / 2 + len % 2)] 23)).alloc (.cells #[.slice a len cap] 22)) := (hBw1.alloc hz _).alloc (by simp; omega) _
  refine wpIn_rangeFunc_ownG hro h1 (gf := 24) (lb := #[.pointer (some ⟨w1.heap.size + 1, 0, none⟩)]) rfl h24 (enters_of Try.func24 (by kernel_rfl) rfl)
    (iter_stops F (n - 1) h24 hro (by omega) (w1.heap.size + 1) w.heap.size len cap a bs hin HL.out hs _ (by simp; omega) bN (hR.below hB0)) keep_t (keep_b (by simp; omega)) (Below.refl _ _) (fun _ => rfl)
    (fun pre W => ((∃ v, Boxed W w1.heap.size 23 v ∧ W.ownsRow w.heap.size 24 1 v (vals pre).length ((vals pre).map (Value.int .u16)) ∧ True) ∧ Boxed W (w1.heap.size + 1) 22 (.slice a len cap)) ∧ Below w.heap.size w W)
    (fun _ _ _ => False)
    (OwnFrom.and (OwnFrom.and (Own.from (holdsRow_own w.heap.size w1.heap.size 23 24 1 (fun pre => (vals pre).length) (fun pre => (vals pre).map (Value.int .u16)) (fun _ _ => True)) _) (Own.from (boxed_own _ _ _) _)) (ownFrom_below (Nat.le_refl _) (by simp; omega)))
    (fun _ _ _ _ _ hs _ _ => hs)
    ⟨⟨⟨_, bO.alloc _, (hown1.alloc _).alloc _, trivial⟩, bN⟩, hB0⟩
    (fun x => { tmps := #[.slice a len cap, undef, .slice none 0 0, .pointer (some ⟨w1.heap.size, 0, none⟩), .int .u16 x.1, .slice a len cap, .int .i64 len, .int .i64 (len / 2), .slice a len cap, .int .i64 len, .int .i64 (len % 2), .int .i64 (len / 2 + len % 2), .slice (some ⟨w.heap.size, 0, none⟩) 0 (len / 2 + len % 2), .slice a len cap, .func (.func 24) #[] #[.pointer (some ⟨w1.heap.size + 1, 0, none⟩)], .int .u16 x.1, undef, undef, undef, undef, undef], defers := [] }) ?assign ?body ?done ?stop
  case assign =>
    intro l x W K hK
    gi_wp2
    exact hK
  case body =>
    rintro l pre x W ⟨⟨⟨v, hv, hrow, _⟩, hbn⟩, hB⟩ hlt
    have hc := hv.cell
    have hpl : (vals pre).length < (len + 1) / 2 := by rw [vals_length]; exact hlt
    have hx := x.2
    gi_wp2_with (gi_at_builtin; refine wpListIn_append_own _ rfl _ _ 23 rfl w.heap.size 24 i0 (.int .u16 0) 1 2 Try.underlying23 hi hz0 hz1 hz2 rfl (by decide) _ _ _ rfl (hrow.alloc _) ⟨W.heap.size, 0, none⟩ 1 1 [.int .u16 x.1] rfl rfl (cell_one_new _ _ _) (by simp [Value.oneCell']) (by unfold maxLen; omega) (by omega) (by have := hB.size; simp; omega) ?_; intro v' w2 hown' hgrow _; obtain ⟨g', cap', rfl⟩ := ownsRow_succ hown'; obtain ⟨hv1, hv2, hr2, hk2, hb2⟩ := hv.appended (by decide) hrow hB.size hz hown' hgrow; have hn2 : Boxed w2 (w1.heap.size + 1) 22 (.slice a len cap) := (hbn.alloc _).kept hgrow (hbn.not_row (by decide) hrow); have hc1 := hv1.cell; have hf1 := hv1.frozen)
    have hn3 := hn2.other (B' := w1.heap.size) (by omega) (.slice (some ⟨g', 0, none⟩) ((vals pre).length + 1) cap')
    exact ⟨hk2.from _, ⟨hb2, fun b hb o ho _ => by simp at hb; subst hb; rw [show W.heap[w1.heap.size + 1]? = _ from hbn] at ho; rw [← ho]; exact hn3⟩, ⟨⟨_, hv2, by rw [vals_snoc]; simpa using hr2, trivial⟩, hn3⟩, hB.trans hb2⟩
  case done =>
    rintro D ys W hD hys ⟨⟨⟨v, hv, hrow, _⟩, _⟩, hB⟩ hK
    have hc := hv.cell
    have HY := Lib.hid hys
    clear hys
    gi_wp2
    refine ⟨by simp, .inl ⟨_, _, rfl, run_takeDeferred hK, ?_⟩⟩
    have hrow' := ownsRow_putObj hrow (.deferred none) hK rfl
    have hbb := hB.trans (belowK_b (w := w) (Nat.le_refl _) W D _ (.deferred none) (by simp at hD; omega) hK rfl rfl)
    rw [HY.out, ← HL.out, vals_words] at hrow'
    obtain ⟨a', c', rfl⟩ := own_slice hrow'
    exact ⟨_, results_tmp rfl _ _ _, a', c', rfl, Row.of_own hrow' (in_wf16 (words_in hin)), hbb⟩
  case stop =>
    rintro D c pre W _ _ h _
    exact h.elim

theorem words_any (a : Option Addr) (len cap : Nat) (bs : List Int) (hl : bs.length = len) (hs : len ≤ 8000000) (w : World) (hR : Row .u8 w.heap.size w a bs) :
    Calls Try.prog 10 #[.slice a len cap] w (RowRet .u16 (words bs) w) :=
  callsIn_wide.1 (words_in' Fence.wide 3 trivial trivial trivial rfl (by omega) a len cap bs hl hs w hR)
end Go.Proofs.Ytkimbpbpopkijaa
