/- What 'handfast/sum.Sum' and 'handfast/sum.Words' answer, at every list of at most 8000000 bytes. -/
import Derived.Test.YtclofmgnnohhpaaIter
namespace Go.Proofs.Ytclofmgnnohhpaa
open Go.RowKit Go.Shelf
open SumM

attribute [local go_sem] Oper.semAt_some

set_option maxHeartbeats 1000000 in
theorem wordsOf_in (F : Fence) (n : Nat) (hf : F.fn 36) (hro : F.round = none) (a : Option Addr) (len cap : Nat) (w : World) :
    CallsIn F n Try.prog 36 #[.slice a len cap] w fun e w' => e = .returned (.func (.func 38) #[] #[.pointer (some ⟨w.heap.size, 0, none⟩)]) ∧ w' = w.alloc (.cells #[.slice a len cap] 23) := by
  refine callsIn_of_wp Try.func36 rfl hf ?_ hro
  simp only [Try.ntmps36, List.size_toArray, List.length_cons, List.length_nil, Nat.reduceAdd, Nat.reduceSub, Array.replicate_succ, Array.replicate_zero, List.push_toArray, List.append_toArray, List.nil_append, List.cons_append]
  gi_wp2
  go_ret
  exact ⟨rfl, rfl⟩

theorem iter_stops (F : Fence) (n : Nat) (hf : F.fn 38) (hro : F.round = none) (hn : 1 ≤ n) (Bs n₀ len cap : Nat) (a : Option Addr) (bs : List Int) (hin : In 255 bs) (hl : bs.length = len) (hs : len ≤ 8000000) (w : World) (hn₀ : n₀ ≤ w.heap.size)
    (hB : Boxed w Bs 23 (.slice a len cap)) (hR : Row .u8 n₀ w a bs) :
    SeqStopsK F n Try.prog 38 #[.pointer (some ⟨Bs, 0, none⟩)] (fun x : W16 => #[Value.int .u16 x.1]) (Keep n₀ [Bs]) (fun ys => ys = uptoA (w16 bs hin) ((len + 1) / 2))
      (fun pre => ∃ k, k ≤ (len + 1) / 2 ∧ pre = uptoA (w16 bs hin) k) ((len + 1) / 2) w := fun l J Jx W hW _ _ hY h0 =>
  iter_in F n hf hro hn l Bs n₀ len cap a bs hin hl hs J Jx hY W ((hW.block Bs hB.lt).trans hB) (hR.below (hW.mono hn₀)) h0

/-- The words as plain numbers. -/
def vals (l : List W16) : List Int := l.map (·.1)
theorem vals_snoc (l : List W16) (x : W16) : vals (l ++ [x]) = vals l ++ [x.1] := by simp [vals]
theorem vals_length (l : List W16) : (vals l).length = l.length := by simp [vals]
theorem vals_in (l : List W16) : In 65535 (vals l) := by
  intro x hx
  simp only [vals, List.mem_map] at hx
  obtain ⟨y, _, rfl⟩ := hx
  exact y.2
theorem vals_words (bs : List Int) (hin : In 255 bs) : vals (uptoA (w16 bs hin) ((bs.length + 1) / 2)) = words bs := by
  simp [vals, uptoA, words, upto, w16]

set_option maxRecDepth 100000 in
set_option maxHeartbeats 2000000 in
theorem sum_in (F : Fence) (n : Nat) (h14 : F.fn 34) (h22 : F.fn 36) (h23 : F.fn 37) (h24 : F.fn 38) (hro : F.round = none) (hn : 3 ≤ n) (hcr : ∀ m W, 0 ≤ m → m ≤ 4503599627370495 → CallsIn F (n - 1) Try.prog 37 #[.int .u64 m] W fun e w' => e = .returned (.int .u16 (cr m)) ∧ W = w')
    (a : Option Addr) (len cap : Nat) (bs : List Int) (hl : bs.length = len) (hs : len ≤ 8000000) (w : World) (hR : Row .u8 w.heap.size w a bs) :
    CallsIn F n Try.prog 34 #[.slice a len cap] w fun e W' => e = .returned (.int .u16 (sumOf bs)) ∧ Below w.heap.size w W' := by
  have h1 : 1 ≤ n := by omega
  have hin : In 255 bs := fun x hx => wf_u8.1 (hR.1 x hx)
  have HL := Lib.hid hl
  have HC := Lib.hid hcr
  clear hl hcr
  refine callsIn_of_wp_marks Try.func34 rfl h14 ?_ hro
  simp only [Try.ntmps34, List.size_toArray, List.length_cons, List.length_nil, Nat.reduceAdd, Nat.reduceSub, Array.replicate_succ, Array.replicate_zero, List.push_toArray, List.append_toArray, List.nil_append, List.cons_append]
  gi_wp2_with (gi_at_call 36; refine (wordsOf_in F (n - 1) h22 hro _ _ _ _).mono ?_; rintro e w' ⟨rfl, rfl⟩)
  have bS := Boxed.new w 56 (.int .u64 0)
  have bN := Boxed.new (w.alloc (.cells #[.int .u64 0] 56)) 23 (.slice a len cap)
  rw [World.size_alloc] at bN
  have hB0 : Below w.heap.size w ((w.alloc (.cells #[.int .u64 0] 56)).alloc (.cells #[.slice a len cap] 23)) := ((Below.refl _ w).alloc (Nat.le_refl _) _).alloc (by simp) _
  refine wpIn_rangeFunc_ownG hro h1 (gf := 38) (lb := #[.pointer (some ⟨w.heap.size + 1, 0, none⟩)]) rfl h24 (enters_of Try.func38 (by kernel_rfl) rfl)
    (iter_stops F (n - 1) h24 hro (by omega) (w.heap.size + 1) w.heap.size len cap a bs hin HL.out hs _ (by simp; omega) bN (hR.below hB0)) keep_t (keep_b (by simp; omega)) (Below.refl _ _) (fun _ => rfl)
    (fun pre W => (W.cell? ⟨w.heap.size, 0, none⟩ = some (.int .u64 (tot (vals pre))) ∧ W.frozen? ⟨w.heap.size, 0, none⟩ = false) ∧ Below w.heap.size w W)
    (fun _ _ _ => False)
    (OwnFrom.and (Own.from (fun s A B row hs hg hr => ⟨cell_kept hs.1 hg hr, (frozen_kept hs.1 hg hr).trans hs.2⟩) _) (ownFrom_below (Nat.le_refl _) (by simp; omega)))
    (fun _ _ _ _ _ hs _ _ => hs)
    ⟨⟨(bS.alloc _).cell, (bS.alloc _).frozen⟩, hB0⟩
    (fun x => { tmps := #[.slice a len cap, undef, .int .u16 0, .pointer (some ⟨w.heap.size, 0, none⟩), .int .u16 x.1, .slice a len cap, .func (.func 38) #[] #[.pointer (some ⟨w.heap.size + 1, 0, none⟩)], .int .u16 x.1, undef, undef, undef, undef, undef, undef], defers := [] }) ?assign ?body ?done ?stop
  case assign =>
    intro l x W K hK
    gi_wp2
    exact hK
  case body =>
    rintro l pre x W ⟨⟨hc, hf⟩, hB⟩ hlt
    have hx := x.2
    have hb := tot_in (vals pre) (vals_in pre)
    have hv : (vals pre).length < (len + 1) / 2 := by rw [vals_length]; exact hlt
    gi_wp2
    exact ⟨(KeepsOthers.setCell _ _ _).from _, Keep.setCell W (p := ⟨w.heap.size, 0, none⟩) (Nat.le_refl _) (by simp) _, ⟨by rw [vals_snoc, tot_snoc]; exact World.cell?_setCell_same' _ _ _ (by rw [hc]; rfl), by rw [World.frozen?_setCell]; exact hf⟩, hB.setCell (p := ⟨w.heap.size, 0, none⟩) (Nat.le_refl _) _⟩
  case done =>
    rintro D ys W hD hys ⟨⟨hc, _⟩, hB⟩ hK
    have hb := tot_in (vals ys) (vals_in ys)
    have hv : (vals ys).length ≤ 4000001 := by rw [vals_length, hys, uptoA_length]; omega
    have HY := Lib.hid hys
    clear hys
    gi_wp2_with (gi_at_call 37; refine (HC.out _ _ (by omega) (by omega)).mono ?_; rintro e w' ⟨rfl, rfl⟩)
    refine ⟨by simp, .inl ⟨_, _, rfl, run_takeDeferred hK, ?_⟩⟩
    refine ⟨_, results_tmp rfl _ _ _, ?_, hB.trans (belowK_b (w := w) (Nat.le_refl _) W D _ _ (by simp at hD; omega) hK rfl rfl)⟩
    rw [HY.out, ← HL.out, vals_words]
    rfl
  case stop =>
    rintro D c pre W _ _ h _
    exact h.elim

theorem sum_any (a : Option Addr) (len cap : Nat) (bs : List Int) (hl : bs.length = len) (hs : len ≤ 8000000) (w : World) (hR : Row .u8 w.heap.size w a bs) :
    Calls Try.prog 34 #[.slice a len cap] w fun e W' => e = .returned (.int .u16 (sumOf bs)) ∧ Below w.heap.size w W' :=
  callsIn_wide.1 (sum_in Fence.wide 3 trivial trivial trivial trivial rfl (by omega) (fun m W h0 h1 => callsIn_wide.2 (carry_any m W h0 h1)) a len cap bs hl hs w hR)
end Go.Proofs.Ytclofmgnnohhpaa
