/- Package tuple: bytesOf and the closure that it hands back; slices.AppendSeq over it. -/
import Derived.Test.YtklmlpnccbmpnaaTupText
namespace Go.Proofs.Ytklmlpnccbmpnaa
open Go.RowKit Go.Shelf
open SumM

attribute [local go_sem] Oper.semAt_some

/-- A byte. -/
abbrev B8 := { x : Int // 0 ≤ x ∧ x ≤ 255 }
def b8 (n : Int) (k i : Nat) : B8 := ⟨n / 256 ^ (k - 1 - i) % 256, by omega⟩
/-- The bytes as plain numbers. -/
def valsB (l : List B8) : List Int := l.map (·.1)
theorem valsB_snoc (l : List B8) (x : B8) : valsB (l ++ [x]) = valsB l ++ [x.1] := by simp [valsB]
theorem valsB_length (l : List B8) : (valsB l).length = l.length := by simp [valsB]
theorem valsB_be (n : Int) (k : Nat) : valsB (uptoA (b8 n k) k) = be k n := by simp [valsB, uptoA, be, upto, b8]

set_option maxHeartbeats 1000000 in
theorem bytesOf_in (n : Nat) (m : Int) (k : Int) (w : World) :
    CallsIn Fence.wide n Try.prog 61 #[.int .u32 m, .int .i64 k] w fun e w' => e = .returned (.func (.func 79) #[] #[.pointer (some ⟨w.heap.size + 1, 0, none⟩), .pointer (some ⟨w.heap.size, 0, none⟩)]) ∧ w' = (w.alloc (.cells #[.int .u32 m] 23)).alloc (.cells #[.int .i64 k] 3) := by
  refine callsIn_of_wp Try.func61 rfl trivial ?_ rfl
  simp only [Try.ntmps61, List.size_toArray, List.length_cons, List.length_nil, Nat.reduceAdd, Nat.reduceSub, Array.replicate_succ, Array.replicate_zero, List.push_toArray, List.append_toArray, List.nil_append, List.cons_append]
  gi_wp2
  go_ret
  exact ⟨rfl, rfl⟩

set_option maxRecDepth 100000 in
set_option maxHeartbeats 2000000 in
theorem bytesIter_in (n : Nat) (hn : 1 ≤ n) (l Bn Bw n₀ k : Nat) (kI m : Int) (hkI : kI = k) (hk : k = 4 ∨ k = 2) (hm : 0 ≤ m ∧ m ≤ 4294967295) (J Jx : List B8 → World → Prop)
    (hY : ∀ pre x W, J pre W → pre.length < k → YieldAt Fence.wide (n - 1) Try.prog l #[.int .u8 x.1] W fun e W' =>
      (e = .returned (.bool true) ∧ J (pre ++ [x]) W' ∧ Keep n₀ [Bn, Bw] W W') ∨ (e = .returned (.bool false) ∧ Jx (pre ++ [x]) W'))
    (W : World) (hBn : Boxed W Bn 23 (.int .u32 m)) (hBw : Boxed W Bw 3 (.int .i64 kI)) (h0 : J [] W) :
    CallsIn Fence.wide n Try.prog 79 #[.func (.yield l) #[] #[], .pointer (some ⟨Bw, 0, none⟩), .pointer (some ⟨Bn, 0, none⟩)] W fun e W' => (∃ v, e = .returned v) ∧
      ((∃ ys, ys = uptoA (b8 m k) k ∧ J ys W') ∨ (∃ pre, (∃ j, j ≤ k ∧ pre = uptoA (b8 m k) j) ∧ Jx pre W')) := by
  refine callsIn_of_wp Try.func79 rfl trivial ?_ rfl
  simp only [Try.ntmps79, List.size_toArray, List.length_cons, List.length_nil, Nat.reduceAdd, Nat.reduceSub, Array.replicate_succ, Array.replicate_zero, List.push_toArray, List.append_toArray, List.nil_append, List.cons_append]
  have hc0 := hBw.cell
  have HK := Lib.hid hkI
  clear hkI
  gi_wp2
  gi_loopw [6] (fun i wr => ∃ j : Nat, j ≤ k ∧ i = .int .i64 (j : Nat) ∧ J (uptoA (b8 m k) j) wr ∧ Keep n₀ [Bn, Bw] W wr)
    (fun i _ => k - (intOf i).toNat)
  case atStart => exact ⟨0, by omega, rfl, h0, Keep.refl _ _ _⟩
  case round =>
    obtain ⟨j, hj, rfl, hJs, hnx⟩ := hrel
    have hcw := (hnx.boxed (by simp) hBw).cell
    have hcn := (hnx.boxed (by simp) hBn).cell
    by_cases hlt : j < k
    · obtain ⟨fn, tmps, assign, body, hy, hRd⟩ := hY _ (b8 m k j) wr hJs (by rw [uptoA_length]; omega)
      have FIN : Hid (∀ (e : Ending) (W3 : World), ((e = .returned (.bool true) ∧ J (uptoA (b8 m k) j ++ [b8 m k j]) W3 ∧ Keep n₀ [Bn, Bw] wr W3) ∨ (e = .returned (.bool false) ∧ Jx (uptoA (b8 m k) j ++ [b8 m k j]) W3)) →
          (e = .returned (.bool true) ∧ Hid (J (uptoA (b8 m k) (j + 1)) W3) ∧ Hid (Keep n₀ [Bn, Bw] W W3)) ∨ (e = .returned (.bool false) ∧ Hid (Jx (uptoA (b8 m k) (j + 1)) W3))) := Lib.hid (by
        intro e W3 h
        rw [← uptoA_succ] at h
        exact h.imp (fun h => ⟨h.1, Lib.hid h.2.1, Lib.hid (keep_t hnx h.2.2)⟩) (fun h => ⟨h.1, Lib.hid h.2⟩))
      have hv : (b8 m k j).1 = m / 256 ^ (k - 1 - j) % 256 := rfl
      rw [hv] at hy
      have hkI := HK.out
      clear hc0 hv hJs hnx hY hBw hBn
      have hj6 : (k = 4 ∧ (j = 0 ∨ j = 1 ∨ j = 2 ∨ j = 3)) ∨ (k = 2 ∧ (j = 0 ∨ j = 1)) := by omega
      rcases hj6 with ⟨rfl, rfl | rfl | rfl | rfl⟩ | ⟨rfl, rfl | rfl⟩
      · obtain rfl : kI = 4 := by omega
        clear HK hkI
        simp only [Nat.reduceSub, Int.reducePow] at hy
        rw [show m / 16777216 % 256 = m / 16777216 by omega] at hy
        gi_wp2
        refine hRd.mono ?_
        intro e W3 h
        rcases FIN.out e W3 h with ⟨rfl, hJ3, hk3⟩ | ⟨rfl, hJx3⟩
        · gi_wp2
          go_roundw
          case rel => exact ⟨1, by omega, by go_num, hJ3.out, hk3.out⟩
          case measure => simp [intOf]
        · gi_wp2
          refine bodyPost_ret (results_none rfl _ _ _) rfl ?_
          exact ⟨⟨_, rfl⟩, .inr ⟨_, ⟨1, by omega, rfl⟩, hJx3.out⟩⟩
      · obtain rfl : kI = 4 := by omega
        clear HK hkI
        simp only [Nat.reduceSub, Int.reducePow] at hy
        gi_wp2
        refine hRd.mono ?_
        intro e W3 h
        rcases FIN.out e W3 h with ⟨rfl, hJ3, hk3⟩ | ⟨rfl, hJx3⟩
        · gi_wp2
          go_roundw
          case rel => exact ⟨2, by omega, by go_num, hJ3.out, hk3.out⟩
          case measure => simp [intOf]
        · gi_wp2
          refine bodyPost_ret (results_none rfl _ _ _) rfl ?_
          exact ⟨⟨_, rfl⟩, .inr ⟨_, ⟨2, by omega, rfl⟩, hJx3.out⟩⟩
      · obtain rfl : kI = 4 := by omega
        clear HK hkI
        simp only [Nat.reduceSub, Int.reducePow] at hy
        gi_wp2
        refine hRd.mono ?_
        intro e W3 h
        rcases FIN.out e W3 h with ⟨rfl, hJ3, hk3⟩ | ⟨rfl, hJx3⟩
        · gi_wp2
          go_roundw
          case rel => exact ⟨3, by omega, by go_num, hJ3.out, hk3.out⟩
          case measure => simp [intOf]
        · gi_wp2
          refine bodyPost_ret (results_none rfl _ _ _) rfl ?_
          exact ⟨⟨_, rfl⟩, .inr ⟨_, ⟨3, by omega, rfl⟩, hJx3.out⟩⟩
      · obtain rfl : kI = 4 := by omega
        clear HK hkI
        simp only [Nat.reduceSub, Int.reducePow, Int.ediv_one] at hy
        gi_wp2
        refine hRd.mono ?_
        intro e W3 h
        rcases FIN.out e W3 h with ⟨rfl, hJ3, hk3⟩ | ⟨rfl, hJx3⟩
        · gi_wp2
          go_roundw
          case rel => exact ⟨4, by omega, by go_num, hJ3.out, hk3.out⟩
          case measure => simp [intOf]
        · gi_wp2
          refine bodyPost_ret (results_none rfl _ _ _) rfl ?_
          exact ⟨⟨_, rfl⟩, .inr ⟨_, ⟨4, by omega, rfl⟩, hJx3.out⟩⟩
      · obtain rfl : kI = 2 := by omega
        clear HK hkI
        simp only [Nat.reduceSub, Int.reducePow] at hy
        gi_wp2
        refine hRd.mono ?_
        intro e W3 h
        rcases FIN.out e W3 h with ⟨rfl, hJ3, hk3⟩ | ⟨rfl, hJx3⟩
        · gi_wp2
          go_roundw
          case rel => exact ⟨1, by omega, by go_num, hJ3.out, hk3.out⟩
          case measure => simp [intOf]
        · gi_wp2
          refine bodyPost_ret (results_none rfl _ _ _) rfl ?_
          exact ⟨⟨_, rfl⟩, .inr ⟨_, ⟨1, by omega, rfl⟩, hJx3.out⟩⟩
      · obtain rfl : kI = 2 := by omega
        clear HK hkI
        simp only [Nat.reduceSub, Int.reducePow, Int.ediv_one] at hy
        gi_wp2
        refine hRd.mono ?_
        intro e W3 h
        rcases FIN.out e W3 h with ⟨rfl, hJ3, hk3⟩ | ⟨rfl, hJx3⟩
        · gi_wp2
          go_roundw
          case rel => exact ⟨2, by omega, by go_num, hJ3.out, hk3.out⟩
          case measure => simp [intOf]
        · gi_wp2
          refine bodyPost_ret (results_none rfl _ _ _) rfl ?_
          exact ⟨⟨_, rfl⟩, .inr ⟨_, ⟨2, by omega, rfl⟩, hJx3.out⟩⟩
    · obtain rfl : j = k := by omega
      obtain rfl : kI = j := HK.out
      gi_wp2
      go_end0
      exact ⟨⟨_, rfl⟩, .inl hJs⟩

theorem bytes_stops (n : Nat) (hn : 1 ≤ n) (Bn Bw n₀ k : Nat) (m : Int) (hk : k = 4 ∨ k = 2) (hm : 0 ≤ m ∧ m ≤ 4294967295) (w : World)
    (hBn : Boxed w Bn 23 (.int .u32 m)) (hBw : Boxed w Bw 3 (.int .i64 k)) :
    SeqStopsK Fence.wide n Try.prog 79 #[.pointer (some ⟨Bw, 0, none⟩), .pointer (some ⟨Bn, 0, none⟩)] (fun x : B8 => #[Value.int .u8 x.1]) (Keep n₀ [Bn, Bw]) (fun ys => ys = uptoA (b8 m k) k)
      (fun pre => ∃ j, j ≤ k ∧ pre = uptoA (b8 m k) j) k w := fun l J Jx W hW _ _ hY h0 =>
  bytesIter_in n hn l Bn Bw n₀ k k m rfl hk hm J Jx hY W ((hW.block Bn hBn.lt).trans hBn) ((hW.block Bw hBw.lt).trans hBw) h0

/-- Behind an append of one element to a row of the call's own: boxes of other types stay, and what is no cells. -/
theorem keep_append {B n s : Nat} {bx : List Nat} {W w2 : World} {v : Value} {o : Obj} {e : TypeId} {xs : List Value} (hB : B ≤ W.heap.size) (hown : W.ownsRow B e s v n xs) (hgrow : (W.alloc o).grownBy w2 v.ownBlock)
    (hb : ∀ b ∈ bx, ∀ (cur : Array Value) (t : TypeId) (r : Nat × Nat), W.heap[b]? = some (.cells cur t r) → t ≠ e) (hlt : ∀ j, v.ownBlock = some j → B ≤ j) : Keep B bx W w2 :=
  ⟨((Below.refl B W).alloc hB o).grown hgrow (by simp; omega) (fun j hj => hlt j hj), fun b hbx x hx hc => by
    have hl : b < W.heap.size := (Array.getElem?_eq_some_iff.1 hx).1
    have hne : some b ≠ v.ownBlock := by
      intro he
      rcases hown.2 with ⟨rfl, _⟩ | ⟨g, cap, cur', rfl, _, hg, _⟩
      · cases he
      · simp only [Value.ownBlock, Option.some.injEq] at he
        subst he
        exact hb _ hbx _ _ _ hg rfl
    exact (hgrow.block b (by simp; omega) hne).trans ((Below.heap_alloc W o b hl).trans hx)⟩

set_option maxRecDepth 100000 in
set_option maxHeartbeats 2000000 in
theorem appendSeqB_in (n : Nat) (hn : 3 ≤ n) (Bn Bw k n0 B : Nat) (m : Int) (hk : k = 4 ∨ k = 2) (hm : 0 ≤ m ∧ m ≤ 4294967295) (v : Value) (xs : List Value) (w : World) (hn0 : n0 ≤ 100)
    (hBn : Boxed w Bn 23 (.int .u32 m)) (hBw : Boxed w Bw 3 (.int .i64 k)) (hB : B ≤ w.heap.size) (hown : w.ownsRow B 5 1 v n0 xs) :
    CallsIn Fence.wide n Try.prog 60 #[v, .func (.func 79) #[] #[.pointer (some ⟨Bw, 0, none⟩), .pointer (some ⟨Bn, 0, none⟩)]] w fun e w' =>
      ∃ v', e = .returned v' ∧ w'.ownsRow B 5 1 v' (n0 + k) (xs ++ (be k m).map (Value.int .u8)) ∧ Below B w w' := by
  have h1 : 1 ≤ n := by omega
  obtain ⟨i0, hi, hz0, hz1, hz2⟩ := info_parts Try.infoU8
  obtain ⟨a, c, rfl⟩ := own_slice hown
  refine callsIn_of_wp_marks Try.func60 rfl trivial ?_ rfl
  simp only [Try.ntmps60, List.size_toArray, List.length_cons, List.length_nil, Nat.reduceAdd, Nat.reduceSub, Array.replicate_succ, Array.replicate_zero, List.push_toArray, List.append_toArray, List.nil_append, List.cons_append]
  gi_wp2
  have bS := Boxed.new w 22 (.slice a n0 c)
  have bN := hBn.alloc (.cells #[.slice a n0 c] 22)
  have bW := hBw.alloc (.cells #[.slice a n0 c] 22)
  have O1 := hown.alloc (.cells #[.slice a n0 c] 22)
  have L0 : Below B w (w.alloc (.cells #[.slice a n0 c] 22)) := (Below.refl _ w).alloc hB _
  refine wpIn_rangeFunc_ownG rfl h1 (gf := 79) (lb := #[.pointer (some ⟨Bw, 0, none⟩), .pointer (some ⟨Bn, 0, none⟩)]) rfl trivial (enters_of Try.func79 (by kernel_rfl) rfl)
    (bytes_stops (n - 1) (by omega) Bn Bw B k m hk hm _ bN bW) keep_t (keep_b (by simp; omega)) (Below.refl _ _) (fun _ => rfl)
    (fun pre W => ((∃ v', Boxed W w.heap.size 22 v' ∧ W.ownsRow B 5 1 v' (n0 + (valsB pre).length) (xs ++ (valsB pre).map (Value.int .u8)) ∧ True) ∧ Boxed W Bn 23 (.int .u32 m) ∧ Boxed W Bw 3 (.int .i64 k)) ∧ Below B w W)
    (fun _ _ _ => False)
    (OwnFrom.and (OwnFrom.and (Own.from (holdsRow_own B w.heap.size 22 5 1 (fun pre => n0 + (valsB pre).length) (fun pre => xs ++ (valsB pre).map (Value.int .u8)) (fun _ _ => True)) _) (OwnFrom.and (Own.from (boxed_own _ _ _) _) (Own.from (boxed_own _ _ _) _))) (ownFrom_below hB (by simp; omega)))
    (fun _ _ _ _ _ hs _ _ => hs)
    ⟨⟨⟨_, bS, by simpa [valsB] using O1, trivial⟩, bN, bW⟩, L0⟩
    (fun x => { tmps := #[.slice a n0 c, .func (.func 79) #[] #[.pointer (some ⟨Bw, 0, none⟩), .pointer (some ⟨Bn, 0, none⟩)], .pointer (some ⟨w.heap.size, 0, none⟩), undef, .slice none 0 0, .int .u8 x.1, .func (.func 79) #[] #[.pointer (some ⟨Bw, 0, none⟩), .pointer (some ⟨Bn, 0, none⟩)], .int .u8 x.1, undef, undef, undef, undef, undef], defers := [] }) ?assign ?body ?done ?stop
  case assign =>
    intro l x W K hK
    gi_wp2
    exact hK
  case body =>
    rintro l pre x W ⟨⟨⟨v', hv, hrow, _⟩, hbn, hbw⟩, hB'⟩ hlt
    have hc := hv.cell
    have hpl : (valsB pre).length < k := by rw [valsB_length]; exact hlt
    have hx := x.2
    gi_wp2_with (gi_at_builtin; refine wpListIn_append_own _ rfl _ _ 22 rfl B 5 i0 (.int .u8 0) 1 1 Try.underlying22 hi hz0 hz1 hz2 rfl (by decide) _ _ _ rfl (hrow.alloc _) ⟨W.heap.size, 0, none⟩ 1 1 [.int .u8 x.1] rfl rfl (cell_one_new _ _ _) (by simp [Value.oneCell']) (by unfold maxLen; omega) (by omega) (by have := hB'.size; simp; omega) ?_; intro v2 w2 hown' hgrow _; obtain ⟨g', cap', rfl⟩ := ownsRow_succ hown'; obtain ⟨hv1, hv2, hr2, hk2, hb2⟩ := hv.appended (by decide) hrow (Nat.le_trans hB hB'.size) hB hown' hgrow; have hn2 : Boxed w2 Bn 23 (.int .u32 m) := (hbn.alloc _).kept hgrow (hbn.not_row (by decide) hrow); have hw2 : Boxed w2 Bw 3 (.int .i64 k) := (hbw.alloc _).kept hgrow (hbw.not_row (by decide) hrow); have hc1 := hv1.cell; have hf1 := hv1.frozen)
    have hn3 := hn2.other (B' := w.heap.size) (fun e => by have := hBn.lt; omega) (.slice (some ⟨g', 0, none⟩) (n0 + (valsB pre).length + 1) cap')
    have hw3 := hw2.other (B' := w.heap.size) (fun e => by have := hBw.lt; omega) (.slice (some ⟨g', 0, none⟩) (n0 + (valsB pre).length + 1) cap')
    refine ⟨hk2.from _, ⟨hb2, fun b hb o ho _ => ?_⟩, ⟨⟨_, hv2, by rw [valsB_snoc]; simpa [Nat.add_assoc] using hr2, trivial⟩, hn3, hw3⟩, hB'.trans hb2⟩
    simp at hb
    rcases hb with rfl | rfl
    · rw [show W.heap[b]? = _ from hbn] at ho; rw [← ho]; exact hn3
    · rw [show W.heap[b]? = _ from hbw] at ho; rw [← ho]; exact hw3
  case done =>
    rintro D ys W hD hys ⟨⟨⟨v', hv, hrow, _⟩, _⟩, hB'⟩ hK
    have hc := hv.cell
    have HY := Lib.hid hys
    clear hys
    gi_wp2
    refine ⟨by simp, .inl ⟨_, _, rfl, run_takeDeferred hK, ?_⟩⟩
    have hrow' := ownsRow_putObj hrow (.deferred none) hK rfl
    have hbb := hB'.trans (belowK_b (w := w) hB W D _ (.deferred none) (by simp at hD; omega) hK rfl rfl)
    rw [HY.out, valsB_be, be_length] at hrow'
    exact ⟨_, results_tmp rfl _ _ _, v', rfl, hrow', hbb⟩
  case stop =>
    rintro D c pre W _ _ h _
    exact h.elim
end Go.Proofs.Ytklmlpnccbmpnaa
