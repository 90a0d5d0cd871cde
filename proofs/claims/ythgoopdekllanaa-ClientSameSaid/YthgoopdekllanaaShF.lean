/- Rows that an iterator hands out, collected: whatever the iterator. -/
import Derived.Test.YthgoopdekllanaaShD
import Derived.Test.YthgoopdekllanaaRangeOkT
namespace Go.Proofs.Ythgoopdekllanaa
open Go.RowKit Go.Shelf
open SumM

attribute [local go_sem] Oper.semAt_some

/-- What is handed out: a row. -/
def encRw (r : SR) : Array Value := #[srV r]
/-- Which one comes behind those that came. -/
def RwOk (XS pre : List SR) (x : SR) : Prop := pre.length < XS.length ∧ pre = XS.take pre.length ∧ x = XS[pre.length]?.getD sr0
/-- What an iterator's rounds leave as it lay: what was there ahead, and blocks of these types. -/
def bTs : List TypeId := [3, 30, 106]
def RwSeq (n gf : Nat) (lb : Array Value) (XS : List SR) (n0 : Nat) (w : World) : Prop := SeqOkT Fence.wide n Try.prog gf lb encRw (fun pre x _ => RwOk XS pre x) (KeepT n0 bTs) (fun xs => xs = XS) (fun _ => True) w
theorem keepT_grown {ts : List TypeId} {W w2 : World} {v : Value} {o : Obj} {e : TypeId} {base s k : Nat} {xs : List Value} (hown : W.ownsRow base e s v k xs) (hts : e ∉ ts) (hgrow : (W.alloc o).grownBy w2 v.ownBlock) (b : Nat) (cur : Array Value) (t : TypeId) (r : Nat × Nat) (ht : t ∈ ts) (hb2 : W.heap[b]? = some (.cells cur t r)) : w2.heap[b]? = some (.cells cur t r) := by
  have hlt : b < W.heap.size := (Array.getElem?_eq_some_iff.1 hb2).1
  have hne : some b ≠ v.ownBlock := by
    intro he
    rcases hown.2 with ⟨rfl, _⟩ | ⟨g, cap, cur', rfl, _, hg, _⟩
    · cases he
    · simp only [Value.ownBlock, Option.some.injEq] at he
      subst he
      rw [hg] at hb2
      injection hb2 with hb2
      injection hb2 with _ e2 _
      exact hts (e2 ▸ ht)
  exact (hgrow.block b (by simp; omega) hne).trans ((Below.heap_alloc W o b hlt).trans hb2)
theorem keepT_box {ts : List TypeId} {W U : World} {v : Value} {t : TypeId} {b : Nat} (hv : Boxed W b t v) (hts : t ∉ ts) (u : Value) (hU : ∀ (c : Nat) (cur : Array Value) (t : TypeId) (r : Nat × Nat), t ∈ ts → W.heap[c]? = some (.cells cur t r) → U.heap[c]? = some (.cells cur t r)) (c : Nat) (cur : Array Value) (t' : TypeId) (r : Nat × Nat) (ht : t' ∈ ts) (hc : W.heap[c]? = some (.cells cur t' r)) : (U.setCell ⟨b, 0, none⟩ u).heap[c]? = some (.cells cur t' r) := by
  have hne : c ≠ b := by
    rintro rfl
    rw [show W.heap[c]? = _ from hv] at hc
    injection hc with hc
    injection hc with _ e _
    exact hts (e ▸ ht)
  exact (Below.heap_setCell U ⟨b, 0, none⟩ u c hne).trans (hU c cur t' r ht hc)

theorem newR_cells (W : World) (u : SR) (t : TypeId) : ∀ j v, (rowC u)[j]? = some v → (W.alloc (.cells #[.int .i64 u.1, .int .i64 u.2.1, .int .i64 u.2.2.1, .int .i64 u.2.2.2.1, .int .i64 u.2.2.2.2] t)).cell? ((⟨W.heap.size, 0, none⟩ : Addr).add j) = some v := by
  intro j v hv
  rw [addr_add, cell_of_row _ _ _ _ _ _ (heap_alloc_new W _)]
  simpa [rowC] using hv
theorem bbW {W W' : World} {b : Nat} {o : Obj} (h : W.heap[b]? = some o) (m : Below W.heap.size W W') : W'.heap[b]? = some o := (m.block _ (Array.getElem?_eq_some_iff.1 h).1).trans h

theorem keepT_new {n : Nat} {ts : List TypeId} {W : World} (o : Obj) (hn : n ≤ W.heap.size) : KeepT n ts W (W.alloc o) :=
  ⟨(Below.refl n W).alloc hn o, fun _ _ _ _ _ hb => (Below.heap_alloc W o _ (Array.getElem?_eq_some_iff.1 hb).1).trans hb⟩
def ApR (w : World) (pre : List SR) (W : World) : Prop := (∃ v', Boxed W w.heap.size 27 v' ∧ W.ownsRow w.heap.size 63 5 v' pre.length (flatS rowC pre) ∧ True) ∧ Below w.heap.size w W
theorem apR_abide (w : World) (B : Nat) (hB : w.heap.size + 1 ≤ B) : Abide4 B (ApR w) where
  far := fun _ _ _ h k => by
    obtain ⟨⟨v', hv, hr, ht⟩, hb⟩ := h
    exact ⟨⟨v', bbW hv k, ownS_below hr k, ht⟩, hb.trans (k.mono hb.size)⟩
  turn := (Abide3.of_own (OwnFrom.and (Own.from (holdsRow_own w.heap.size w.heap.size 27 63 5 (fun pre : List SR => pre.length) (fun pre => flatS rowC pre) (fun _ _ => True)) _) (ownFrom_below (Nat.le_refl _) (by omega)))).turn

set_option maxRecDepth 100000 in
set_option maxHeartbeats 4000000 in
theorem appendSeqR_in (n : Nat) (hn : 3 ≤ n) (gf : Nat) (lb : Array Value) (XS : List SR) (hX : XS.length ≤ 1000) (w : World) (heg : ∀ args w, (callFunc gf args).run Try.prog w = .ok (.enter gf args) w) (hsq : ∀ W, Below w.heap.size w W → RwSeq (n - 1) gf lb XS w.heap.size W) :
    CallsIn Fence.wide n Try.prog 64 #[.slice none 0 0, .func (.func gf) #[] lb] w fun e w' =>
      ∃ v', e = .returned v' ∧ w'.ownsRow w.heap.size 63 5 v' XS.length (flatS rowC XS) ∧ Below w.heap.size w w' := by
  have h1n : 1 ≤ n := by omega
  obtain ⟨i0, hi, hz0, hz1, hz2⟩ := info_parts Try.infoRow
  refine callsIn_of_wp_marks Try.func64 rfl trivial ?_ rfl
  simp only [Try.ntmps64, List.size_toArray, List.length_cons, List.length_nil, Nat.reduceAdd, Nat.reduceSub, Array.replicate_succ, Array.replicate_zero, List.push_toArray, List.append_toArray, List.nil_append, List.cons_append]
  have HSQ := Lib.hid hsq
  have HEG := Lib.hid heg
  have HXX := Lib.hid hX
  clear hsq heg hX
  gi_wp2
  have bS := Boxed.new w 27 (.slice none 0 0)
  have L0 : Below w.heap.size w (w.alloc (.cells #[.slice none 0 0] 27)) := (Below.refl _ w).alloc (Nat.le_refl _) _
  have hs : (w.alloc (.cells #[.slice none 0 0] 27)).heap.size = w.heap.size + 1 := by simp
  refine range_okT rfl h1n (gf := gf) (lb := lb) rfl trivial HEG.out
      (HSQ.out _ L0) (fun _ _ _ _ _ _ h _ _ _ => h) keepT_t (fun W l o o' h1 h2 h3 h4 => keepT_b (by omega) W l o o' h1 h2 h3 h4) (fun _ => rfl)
      (ApR w) (fun _ _ _ => False) (apR_abide w _ (by omega)) (fun _ => Abide4.none _) ⟨⟨_, bS, World.ownsRow_nil _ _ _ _, trivial⟩, L0⟩
      (fun u => .cells #[.int .i64 u.1, .int .i64 u.2.1, .int .i64 u.2.2.1, .int .i64 u.2.2.2.1, .int .i64 u.2.2.2.2] 63) (fun W _ h => keepT_new _ (by omega)) (fun _ _ _ h => h)
      (fun u b => { tmps := #[.slice none 0 0, .func (.func gf) #[] lb, .pointer (some ⟨w.heap.size, 0, none⟩), undef, .slice none 0 0, .pointer (some ⟨b, 0, none⟩), .func (.func gf) #[] lb, srV u, undef, undef, undef, undef, undef], defers := [] }) ?assign ?body ?done ?stop
  case assign =>
    intro l x W K hK
    simp only [encRw] at hK ⊢
    gi_wp2
    exact hK
  case stop =>
    rintro D c pre W hD _ h
    exact h.elim
  case done =>
    rintro D ys W hD rfl ⟨⟨v', hv, hrow, _⟩, hB'⟩ hK
    have hc := hv.cell
    gi_wp2
    refine ⟨by simp, .inl ⟨_, _, rfl, run_takeDeferred hK, ?_⟩⟩
    have hrow' := ownsRow_putObj hrow (.deferred none) hK rfl
    have hbb := hB'.trans (belowK_b (w := w) (Nat.le_refl _) W D _ (.deferred none) (by simp at hD; omega) hK rfl rfl)
    exact ⟨_, results_tmp rfl _ _ _, v', rfl, hrow', hbb⟩
  case body =>
    rintro l pre ⟨x0, x1, x2, x3, x4⟩ W b ⟨⟨v, hv, hrow, _⟩, hB'⟩ hx hb1 hb2 hbx
    have hc := hv.cell
    obtain ⟨q0, q1, q2, q3, q4⟩ := sr_cells _ _ _ _ _ hbx
    have hpl : pre.length < 1000 := Nat.lt_of_lt_of_le hx.1 HXX.out
    clear hx
    gi_wp2_with (gi_at_builtin; refine wpListIn_append_own _ rfl _ _ 27 rfl w.heap.size 63 i0 (.agg #[.int .i64 0, .int .i64 0, .int .i64 0, .int .i64 0, .int .i64 0]) 5 40 Try.underlying27 hi hz0 hz1 hz2 rfl (by decide) _ _ _ rfl (hrow.alloc _) ⟨W.heap.size, 0, none⟩ 1 1 (rowC (x0, x1, x2, x3, x4)) rfl rfl (newR_cells W (x0, x1, x2, x3, x4) _) (rowC_one _) (by unfold maxLen; omega) (by omega) (by have := hB'.size; simp; omega) ?_; intro v2 w2 hown' hgrow _; obtain ⟨g', cap', rfl⟩ := ownsRow_succ hown'; have hgt := keepT_grown (ts := bTs) hrow (by decide) hgrow; obtain ⟨hv1, hv2, hr2, hk2, hb2⟩ := hv.appended (by decide) hrow hB'.size (Nat.le_refl _) hown' hgrow; have hc1 := hv1.cell; have hf1 := hv1.frozen)
    have hf : flatS rowC (pre ++ [(x0, x1, x2, x3, x4)]) = flatS rowC pre ++ rowC (x0, x1, x2, x3, x4) := by rw [flatS_append]; simp [flatS]
    have hlen : (pre ++ [((x0, x1, x2, x3, x4) : SR)]).length = pre.length + 1 := by simp
    rw [← hf] at hr2
    exact ⟨hk2.from _, ⟨hb2, keepT_box hv (by decide) _ hgt⟩, ⟨_, hv2, by rw [hlen]; exact hr2, trivial⟩, hB'.trans hb2⟩

theorem collectR_any (gf : Nat) (lb : Array Value) (XS : List SR) (hX : XS.length ≤ 1000) (w : World) (heg : ∀ args w, (callFunc gf args).run Try.prog w = .ok (.enter gf args) w) (hsq : ∀ W, Below w.heap.size w W → RwSeq 9 gf lb XS w.heap.size W) :
    Calls Try.prog 43 #[.func (.func gf) #[] lb] w fun e w' =>
      ∃ v', e = .returned v' ∧ w'.ownsRow w.heap.size 63 5 v' XS.length (flatS rowC XS) ∧ Below w.heap.size w w' := by
  have KA := Lib.hid (callsIn_wide.1 (appendSeqR_in 10 (by omega) gf lb XS hX w heg hsq))
  clear heg hsq hX
  go_enter Try.func43, Try.ntmps43
  go_wp2_with fail
  refine KA.out.mono ?_
  rintro e w1 ⟨v', rfl, O1, m1⟩
  have HO := Lib.hid O1
  have HM := Lib.hid m1
  clear O1 m1
  go_wp2
  go_ret
  exact ⟨v', rfl, HO.out, HM.out⟩
end Go.Proofs.Ythgoopdekllanaa
