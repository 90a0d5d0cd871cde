/- Whose buckets these are: package table's, the document's. -/
import Derived.Test.YtanbkbppahgbgaaTbD
import Derived.Test.YtanbkbppahgbgaaRangeOkD
import Derived.Sort.CutIn
namespace Go.Proofs.Ytanbkbppahgbgaa
open Go.RowKit Go.Shelf
open SumM

attribute [local go_sem] Oper.semAt_some zero_tab build_tab guard_undef
attribute [local go_sem ↓] nm_ldT nm_ldA nm_ldN nm_stT nm_stN

/-- Those of some buckets of which p holds. -/
def selI (p : Nat → Bool) (l : List Nat) : List Int := (l.filter p).map fun i : Nat => (i : Int)
theorem selI_len (p : Nat → Bool) (k : Nat) : (selI p (List.range k)).length ≤ k := by
  unfold selI
  rw [List.length_map]
  exact Nat.le_trans (List.length_filter_le _ _) (by simp)
theorem selI_yes {p : Nat → Bool} {k : Nat} (h : p k = true) : selI p (List.range (k + 1)) = selI p (List.range k) ++ [(k : Int)] := by
  simp [selI, List.range_succ, List.filter_append, h]
theorem selI_no {p : Nat → Bool} {k : Nat} (h : p k = false) : selI p (List.range (k + 1)) = selI p (List.range k) := by
  simp [selI, List.range_succ, List.filter_append, h]
theorem selI_wf (p : Nat → Bool) : ∀ n ∈ selI p (List.range 16), (Lit.int .i64 n).wf = true := by
  intro n hn
  simp only [selI, List.mem_map, List.mem_filter, List.mem_range] at hn
  obtain ⟨i, ⟨hi, _⟩, rfl⟩ := hn
  exact wf_i64.2 ⟨by omega, by omega⟩
theorem selI_congr {p q : Nat → Bool} {k : Nat} (h : ∀ i, i < k → p i = q i) : selI p (List.range k) = selI q (List.range k) := by
  unfold selI
  rw [List.filter_congr fun i hi => h i (List.mem_range.1 hi)]
/-- The buckets that are b's. -/
def ofP (T : Nat → Int) (b : Int) (i : Nat) : Bool := (rowT T i).1 == b

set_option maxRecDepth 100000 in
set_option maxHeartbeats 8000000 in
theorem r10Of_any (T : Nat → Int) (b : Int) (w : World) : Calls Try.prog 22 #[tabV T, .int .i64 b] w (RowRet .i64 (selI (ofP T b) (List.range 16)) w) := by
  obtain ⟨i0, hi, hz0, hz1, hz2⟩ := info_parts Try.infoInt
  have bT := heap_alloc_new w (.cells (numL 65 T).toArray 26)
  have L0 := (Below.refl w.heap.size w).alloc (Nat.le_refl _) (.cells (numL 65 T).toArray 26)
  go_enter Try.func22, Try.ntmps22
  go_upto_region 1 with (fail)
  generalize w.alloc (.cells (numL 65 T).toArray 26) = W0 at *
  have HB := Lib.hid L0
  have HT := Lib.hid bT
  clear L0 bT
  go_wp2
  go_loopw [5, 6] (fun v i wr => ∃ k : Nat, k ≤ 16 ∧ i = .int .i64 (k : Nat) ∧ wr.ownsRow W0.heap.size 3 1 v (selI (ofP T b) (List.range k)).length ((selI (ofP T b) (List.range k)).map (Value.int .i64)) ∧ Below W0.heap.size W0 wr) (fun _ i _ => 16 - (intOf i).toNat)
  case atStart => exact ⟨0, by omega, rfl, World.ownsRow_nil _ _ _ _, Below.refl _ _⟩
  case round =>
    obtain ⟨k, hk, rfl, hown, hnx⟩ := hrel
    by_cases hlt : k < 16
    · have hk1 : (k : Int) < 16 := by omega
      have c0 := nb_cell (bb HT.out hnx) (o := 1 + k * 4) (by omega)
      have hu : T (1 + k * 4) = (rowT T k).1 := rfl
      rw [hu] at c0
      have hle := selI_len (ofP T b) k
      obtain ⟨p, hp⟩ : ∃ p, ofP T b k = p := ⟨_, rfl⟩
      have ht : ((rowT T k).1 == b) = p := hp
      have HY := Lib.hid (fun h : p = true => selI_yes (hp.trans h))
      have HN := Lib.hid (fun h : p = false => selI_no (hp.trans h))
      clear hu hp
      generalize (rowT T k).1 = c at *
      generalize selI (ofP T b) (List.range k) = zs at *
      have HL := Lib.hid hle
      have HNX := Lib.hid hnx
      cases p
      · have HO := Lib.hid hown
        clear hown hnx hle
        go_wp2
        go_roundw
        case rel => exact ⟨k + 1, by omega, by go_num, by rw [HN.out rfl]; exact HO.out, HNX.out⟩
        case measure => simp [intOf]; omega
      · clear hle
        go_wp2_with (at_builtin; refine wpList_append_own _ rfl _ _ 38 rfl W0.heap.size 3 i0 (.int .i64 0) 1 8 Try.underlying38 hi hz0 hz1 hz2 rfl (by decide) _ _ _ rfl (hown.alloc _) ⟨wr.heap.size, 0, none⟩ 1 1 [.int .i64 (k : Nat)] rfl rfl (cell_one_new _ _ _) (by simp [Value.oneCell']) (by have := HL.out; unfold maxLen; omega) (by have := HL.out; omega) (by have := hnx.size; simp; omega) ?_; intro v' w1 hown' hgrow _)
        have hB1 := Lib.hid (below_append hnx hnx.size hown hgrow)
        have ho1 := Lib.hid hown'
        clear hown' hgrow hown hnx
        go_wp2
        go_roundw
        case rel =>
          refine ⟨k + 1, by omega, by go_num, ?_, hB1.out⟩
          rw [HY.out rfl]
          simpa using ho1.out
        case measure => simp [intOf]; omega
    · obtain rfl : k = 16 := by omega
      have HO := Lib.hid hown
      have HNX := Lib.hid hnx
      clear hnx
      obtain ⟨a', c', rfl⟩ := own_slice hown
      clear hown
      go_wp2
      go_ret
      exact ⟨a', c', rfl, Row.of_own HO.out (selI_wf _), HB.out.trans (HNX.out.mono HB.out.size)⟩

/-- While the rows come: what was chosen, in the box at n0. -/
def SelI (p : Nat → Bool) (w : World) (pre : List Nat) (W : World) : Prop := (∃ v', Boxed W w.heap.size 38 v' ∧ W.ownsRow w.heap.size 3 1 v' (selI p pre).length ((selI p pre).map (Value.int .i64)) ∧ True) ∧ Below w.heap.size w W
theorem selI_abide (p : Nat → Bool) (w : World) (B : Nat) (hB : w.heap.size + 1 ≤ B) : Abide3 B (SelI p w) :=
  Abide3.of_own (OwnFrom.and (Own.from (holdsRow_own w.heap.size w.heap.size 38 3 1 (fun pre : List Nat => (selI p pre).length) (fun pre => (selI p pre).map (Value.int .i64)) (fun _ _ => True)) _) (ownFrom_below (Nat.le_refl _) (by omega)))
theorem selI_drew (p : Nat → Bool) (w : World) (pre : List Nat) (W : World) (h : SelI p w pre W) : SelI p w pre W.drew := by
  obtain ⟨⟨v', hv, hr, ht⟩, hb⟩ := h
  exact ⟨⟨v', hv, hr.drew, ht⟩, hb.drew⟩
theorem rows_okD (n : Nat) (hn : 1 ≤ n) (B : Nat) (T : Nat → Int) (w : World) (hb : NB B 26 65 T w) :
    SeqOkD Fence.wide n Try.prog 42 #[.pointer (some ⟨B, 0, none⟩)] (encR T) (fun pre x _ => RowOk pre x) (fun _ _ => True) (fun xs => xs = List.range 16) (fun _ => True) w :=
  fun l J Jx W m hN _ hY h0 => rowIter_in n hn B T l J Jx W (nb_below hb m) hN hY h0
theorem selI_end (p : Nat → Bool) (i : Nat) : selI p (List.range i ++ [i]) = selI p (List.range (i + 1)) := by rw [List.range_succ]

set_option maxRecDepth 100000 in
set_option maxHeartbeats 8000000 in
theorem of_in (n : Nat) (hn : 4 ≤ n) (T : Nat → Int) (b : Int) (w : World) :
    CallsIn Fence.wide n Try.prog 21 #[tabV T, .int .i64 b] w (RowRet .i64 (selI (ofP T b) (List.range 16)) w) := by
  have h1n : 1 ≤ n := by omega
  obtain ⟨i0, hi, hz0, hz1, hz2⟩ := info_parts Try.infoInt
  refine callsIn_of_wp_marks Try.func21 rfl trivial ?_ rfl
  simp only [Try.ntmps21, List.size_toArray, List.length_cons, List.length_nil, Nat.reduceAdd, Nat.reduceSub, Array.replicate_succ, Array.replicate_zero, List.push_toArray, List.append_toArray, List.nil_append, List.cons_append]
  have bT := heap_alloc_new w (.cells (numL 65 T).toArray 26)
  have bT := (Below.heap_alloc _ (.cells #[.int .i64 b] 3) _ (by simp)).trans bT
  have bB := heap_alloc_new (w.alloc (.cells (numL 65 T).toArray 26)) (.cells #[.int .i64 b] 3)
  rw [World.size_alloc] at bB
  have L0 := ((Below.refl w.heap.size w).alloc (Nat.le_refl _) (.cells (numL 65 T).toArray 26)).alloc (by simp) (.cells #[.int .i64 b] 3)
  have hs : ((w.alloc (.cells (numL 65 T).toArray 26)).alloc (.cells #[.int .i64 b] 3)).heap.size = w.heap.size + 2 := by simp
  gi_upto_region 1 with (fail)
  generalize (w.alloc (.cells (numL 65 T).toArray 26)).alloc (.cells #[.int .i64 b] 3) = W0 at *
  have bL := Boxed.new W0 38 (.slice none 0 0)
  have L1 := (Below.refl W0.heap.size W0).alloc (Nat.le_refl _) (.cells #[.slice none 0 0] 38)
  have l0 := ld_tab (bb bT L1)
  have hs1 : (W0.alloc (.cells #[.slice none 0 0] 38)).heap.size = w.heap.size + 3 := by simp; omega
  gi_wp2_with fail
  generalize W0.alloc (.cells #[.slice none 0 0] 38) = W1 at *
  refine ⟨trivial, (rows_in (n - 1) T W1).mono ?_⟩
  rintro e w1 ⟨rfl, rfl⟩
  have hV := heap_alloc_new W1 (.cells (numL 65 T).toArray 26)
  have hsV : (W1.alloc (.cells (numL 65 T).toArray 26)).heap.size = w.heap.size + 4 := by simp; omega
  have IV : SelI (ofP T b) W0 [] (W1.alloc (.cells (numL 65 T).toArray 26)) := ⟨⟨_, bL.alloc _, (World.ownsRow_nil _ _ _ _), trivial⟩, L1.alloc L1.size _⟩
  rw [hs1] at hV ⊢
  have HI := Lib.hid IV
  have HB := Lib.hid bB
  have HL0 := Lib.hid L0
  have HS := Lib.hid hs
  clear l0 bT bL L1 hs1 IV bB L0
  gi_wp2
  generalize W1.alloc (.cells (numL 65 T).toArray 26) = V at *
  refine range_okD rfl h1n (gf := 42) (lb := #[.pointer (some ⟨w.heap.size + 3, 0, none⟩)]) rfl trivial (enters_of Try.func42 (by kernel_rfl) rfl)
    (rows_okD (n - 1) (by omega) (w.heap.size + 3) T V hV) (fun _ _ _ _ _ _ h _ _ _ => h) (fun _ _ => trivial) (fun _ _ _ _ _ _ _ _ => trivial) (fun _ => rfl)
    (SelI (ofP T b) W0) (fun _ _ _ => False) (selI_abide _ _ _ (by omega)) (fun _ => ⟨fun _ _ _ h => h, fun _ _ _ _ _ h _ _ _ => h⟩) (selI_drew _ _) HI.out
    (fun i => .cells #[.int .i64 (rowT T i).1, .int .i64 (rowT T i).2.1, .int .i64 (rowT T i).2.2.1, .int .i64 (rowT T i).2.2.2] 23) (fun _ _ => trivial) (fun _ _ _ h => h)
    (fun i b' => { tmps := #[tabV T, .int .i64 b, .pointer (some ⟨w.heap.size, 0, none⟩), .pointer (some ⟨w.heap.size + 1, 0, none⟩), .slice none 0 0, .pointer (some ⟨w.heap.size + 2, 0, none⟩), .int .i64 (i : Nat), .pointer (some ⟨b', 0, none⟩), tabV T, .func (.func 42) #[] #[.pointer (some ⟨w.heap.size + 3, 0, none⟩)], .int .i64 (i : Nat), entV (rowT T i), undef, undef, undef, undef, undef, undef, undef, undef, undef], defers := [] }) ?assign ?body ?done ?stop
  case assign =>
    intro l x W K hK
    simp only [encR] at hK ⊢
    gi_wp2
    exact hK
  case stop =>
    rintro D c pre W hD _ h
    exact h.elim
  case done =>
    rintro D ys W hD rfl ⟨⟨v', hv, hrow, _⟩, hB'⟩ hK
    rw [HS.out] at hv
    have hc := hv.cell
    have HR := Lib.hid hrow
    have HBB := Lib.hid hB'
    have HK := Lib.hid hK
    have HD := Lib.hid (show w.heap.size + 4 ≤ D by omega)
    clear hv hB' hK hD
    obtain ⟨a', c', rfl⟩ := own_slice hrow
    clear hrow
    gi_wp2
    refine ⟨by simp, .inl ⟨_, _, rfl, run_takeDeferred HK.out, ?_⟩⟩
    have hrow' := ownsRow_putObj HR.out (.deferred none) HK.out rfl
    exact ⟨_, results_tmp rfl _ _ _, a', c', rfl, Row.of_own hrow' (selI_wf _), (HL0.out.trans (HBB.out.mono HL0.out.size)).trans (belowK_b (w := w) (Nat.le_refl _) W D _ (.deferred none) (by have := HD.out; omega) HK.out rfl rfl)⟩
  case body =>
    rintro l pre i W b' ⟨⟨v, hv, hrow, _⟩, hB'⟩ ⟨hpre, hi16⟩ hb1 hb2 hbx
    subst hpre
    have hle := selI_len (ofP T b) i
    have hbb : W.heap[w.heap.size + 1]? = some (.cells #[.int .i64 b] 3 (0, 0)) := (hB'.block _ (by omega)).trans HB.out
    have cb := Boxed.cell (show Boxed W (w.heap.size + 1) 3 (.int .i64 b) from hbb)
    have q0 := (ent_cells _ _ _ _ hbx).1
    obtain ⟨p, hp⟩ : ∃ p, ofP T b i = p := ⟨_, rfl⟩
    have ht : ((rowT T i).1 == b) = p := hp
    have HY := Lib.hid (fun h : p = true => (selI_end (ofP T b) i).trans (selI_yes (hp.trans h)))
    have HN := Lib.hid (fun h : p = false => (selI_end (ofP T b) i).trans (selI_no (hp.trans h)))
    clear hp hbb hbx
    generalize (rowT T i).1 = c at *
    cases p
    · have HI2 := Lib.hid (show SelI (ofP T b) W0 (List.range i ++ [i]) W from ⟨⟨v, hv, by rw [HN.out rfl]; exact hrow, trivial⟩, hB'⟩)
      clear hv hrow hB' hle
      gi_wp2
      exact ⟨⟨Nat.le_refl _, fun _ _ _ h _ => h⟩, trivial, HI2.out⟩
    · have HY2 := Lib.hid (HY.out rfl)
      have hn0 : W0.heap.size ≤ W.heap.size := hB'.size
      generalize selI (ofP T b) (List.range i) = zs at *
      rw [HS.out] at hv hrow hn0
      have hc := hv.cell
      have HB2 := Lib.hid hB'
      have HLE := Lib.hid hle
      clear hB' hle HN HY
      gi_wp2_with (gi_at_builtin; refine wpListIn_append_own _ rfl _ _ 38 rfl (w.heap.size + 2) 3 i0 (.int .i64 0) 1 8 Try.underlying38 hi hz0 hz1 hz2 rfl (by decide) _ _ _ rfl (hrow.alloc _) ⟨W.heap.size, 0, none⟩ 1 1 [.int .i64 (i : Nat)] rfl rfl (cell_new1 W _ _) (by simp [Value.oneCell']) (by have := HLE.out; unfold maxLen; omega) (by have := HLE.out; omega) (by simp; omega) ?_; intro v2 w2 hown' hgrow _; obtain ⟨g', cap', rfl⟩ := ownsRow_succ hown'; obtain ⟨hv1, hv2, hr2, hk2, hb2⟩ := hv.appended (by decide) hrow hn0 (Nat.le_refl _) hown' hgrow; have hc1 := hv1.cell; have hf1 := hv1.frozen)
      refine ⟨hk2.from _, trivial, ?_⟩
      unfold SelI
      rw [HY2.out, HS.out]
      have hB3 := HB2.out
      rw [HS.out] at hB3
      refine ⟨⟨_, hv2, ?_, trivial⟩, hB3.trans hb2⟩
      simpa using hr2

theorem of_any (T : Nat → Int) (b : Int) (w : World) : Calls Try.prog 21 #[tabV T, .int .i64 b] w (RowRet .i64 (selI (ofP T b) (List.range 16)) w) :=
  callsIn_wide.1 (of_in 4 (by omega) T b w)
end Go.Proofs.Ytanbkbppahgbgaa
