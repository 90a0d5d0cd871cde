/- Rows of bytes, one by one: package sheet's rowsIn. -/
import Derived.Test.YthgoopdekllanaaShO
import Derived.Test.YthgoopdekllanaaShL
import Derived.Test.YthgoopdekllanaaShF
import Derived.Test.YthgoopdekllanaaRangeOkN
import Derived.Test.YthgoopdekllanaaShM
namespace Go.Proofs.Ythgoopdekllanaa
open Go.RowKit Go.Shelf
open SumM

attribute [local go_sem] Oper.semAt_some

/-- A row of thirteen bytes; the rows of bytes. -/
def rowOf (c : List Int) : SR := (numOf (c.take 1), numOf ((c.drop 1).take 1) - 1, numOf ((c.drop 2).take 1) - 1, numOf ((c.drop 3).take 4), numOf ((c.drop 7).take 6))
def rowsOf (m : Nat) (bs : List Int) : List SR := (List.range m).map fun k => rowOf ((bs.drop (13 * k)).take 13)
theorem rowsOf_len (m : Nat) (bs : List Int) : (rowsOf m bs).length = m := by simp [rowsOf]
theorem rowsOf_get {m k : Nat} (bs : List Int) (h : k < m) : (rowsOf m bs)[k]?.getD sr0 = rowOf ((bs.drop (13 * k)).take 13) := by simp [rowsOf, h]

set_option maxRecDepth 100000 in
theorem rowsIn_in (n : Nat) (a : Option Addr) (len cap : Nat) (w : World) :
    CallsIn Fence.wide n Try.prog 52 #[.slice a len cap] w fun e w' => e = .returned (.func (.func 70) #[] #[.pointer (some ⟨w.heap.size, 0, none⟩)]) ∧ w' = w.alloc (.cells #[.slice a len cap] 30) := by
  refine callsIn_of_wp Try.func52 rfl trivial ?_ rfl
  simp only [Try.ntmps52, List.size_toArray, List.length_cons, List.length_nil, Nat.reduceAdd, Nat.reduceSub, Array.replicate_succ, Array.replicate_zero, List.push_toArray, List.append_toArray, List.nil_append, List.cons_append]
  gi_wp2
  go_ret
  exact ⟨rfl, rfl⟩

/-- How far the first k numbers reach. -/
def rnO (k : Nat) : Nat := match k with | 0 => 0 | 1 => 1 | 2 => 2 | 3 => 3 | 4 => 7 | _ => 13
def rv (c : List Int) (j : Nat) : Int := numOf ((c.drop (rnO j)).take (rnW j)) - rnP j
def rF (c : List Int) (k j : Nat) : Int := if j < k then rv c j else 0
def rC (c : List Int) (k : Nat) : Array Value := #[.int .i64 (rF c k 0), .int .i64 (rF c k 1), .int .i64 (rF c k 2), .int .i64 (rF c k 3), .int .i64 (rF c k 4)]
theorem rC_five (c : List Int) : rC c 5 = #[.int .i64 (rowOf c).1, .int .i64 (rowOf c).2.1, .int .i64 (rowOf c).2.2.1, .int .i64 (rowOf c).2.2.2.1, .int .i64 (rowOf c).2.2.2.2] := by
  simp [rC, rF, rv, rowOf, rnO, rnW, rnP]
theorem rC_zero (c : List Int) : rC c 0 = #[.int .i64 0, .int .i64 0, .int .i64 0, .int .i64 0, .int .i64 0] := by
  simp [rC, rF]
theorem rC_set (c : List Int) {k : Nat} (h : k < 5) : (rC c k).setIfInBounds k (.int .i64 (rv c k)) = rC c (k + 1) := by
  match k, h with
  | 0, _ => simp [rC, rF]
  | 1, _ => simp [rC, rF]
  | 2, _ => simp [rC, rF]
  | 3, _ => simp [rC, rF]
  | 4, _ => simp [rC, rF]
theorem rnO_succ {k : Nat} (h : k < 5) : rnO (k + 1) = rnO k + rnW k ∧ rnO k + rnW k ≤ 13 ∧ 0 < rnW k ∧ rnW k ≤ 6 ∧ (0 ≤ rnP k ∧ rnP k ≤ 1) := by
  match k, h with
  | 0, _ => decide
  | 1, _ => decide
  | 2, _ => decide
  | 3, _ => decide
  | 4, _ => decide
theorem rC_cell {w : World} {b k : Nat} {c : List Int} {j : Nat} {t : TypeId} (h : w.heap[b]? = some (.cells (rC c k) t (0, 0))) (hj : j < 5) : ∃ x : Int, w.cell? ⟨b, j, none⟩ = some (.int .i64 x) := by
  match j, hj with
  | 0, _ => exact ⟨_, by rw [cell_of_row _ _ _ _ _ _ h]; rfl⟩
  | 1, _ => exact ⟨_, by rw [cell_of_row _ _ _ _ _ _ h]; rfl⟩
  | 2, _ => exact ⟨_, by rw [cell_of_row _ _ _ _ _ _ h]; rfl⟩
  | 3, _ => exact ⟨_, by rw [cell_of_row _ _ _ _ _ _ h]; rfl⟩
  | 4, _ => exact ⟨_, by rw [cell_of_row _ _ _ _ _ _ h]; rfl⟩
/-- While a row is filled in. -/
structure RI (Wp W : World) (B b' rb n0 : Nat) (c : List Int) (k : Nat) (U : World) : Prop where
  lo : Below Wp.heap.size Wp U
  kf : KeepsFrom B W U
  pt : ∃ A, U.heap[b']? = some (.cells #[.slice A (13 - rnO k) (13 - rnO k)] 30 (0, 0)) ∧ Row .u8 n0 U A (c.drop (rnO k)) ∧ (rnO k < 13 → ∃ b off, A = some ⟨b, off, none⟩)
  rw' : U.heap[rb]? = some (.cells (rC c k) 63 (0, 0))
theorem RI.far {Wp W U U' : World} {B b' rb n0 : Nat} {c : List Int} {k : Nat} (h : RI Wp W B b' rb n0 c k U) (hn : n0 ≤ Wp.heap.size) (m : Below U.heap.size U U') (hk : KeepsFrom B U U') : RI Wp W B b' rb n0 c k U' := by
  obtain ⟨h1, h2, ⟨A, h3, h4, h5⟩, h6⟩ := h
  exact ⟨h1.trans (m.mono h1.size), h2.trans hk, ⟨A, bbW h3 m, h4.below (m.mono (Nat.le_trans hn h1.size)), h5⟩, bbW h6 m⟩
theorem RI.turn {Wp W U : World} {B b' rb n0 : Nat} {c : List Int} {k : Nat} (h : RI Wp W B b' rb n0 c k U) (hn : n0 ≤ Wp.heap.size) (hWp : Wp.heap.size ≤ W.heap.size) {l : Nat} {o : Obj} (o' : Obj) (hl : W.heap.size ≤ l) (ho : U.heap[l]? = some o) (hc : o.isCells = false) : RI Wp W B b' rb n0 c k (U.putObj l o') := by
  obtain ⟨h1, h2, ⟨A, h3, h4, h5⟩, h6⟩ := h
  have hb : Below Wp.heap.size U (U.putObj l o') := ⟨rfl, rfl, rfl, by simp [World.putObj], fun k hk => World.putObj_heap_other (by omega)⟩
  exact ⟨h1.trans hb, ⟨Nat.le_trans h2.size (by simp [World.putObj]), fun i o hi hx hco => (World.putObj_heap_other (by have := (Array.getElem?_eq_some_iff.1 hx).1; omega)).trans (h2.same i o hi hx hco)⟩,
    ⟨A, (World.putObj_heap_other (fun e => other_ne h3 ho hc e)).trans h3, h4.below (hb.mono hn), h5⟩, (World.putObj_heap_other (fun e => other_ne h6 ho hc e)).trans h6⟩
theorem keepT_cell {n : Nat} {ts : List TypeId} {W : World} {b : Nat} {cs : Array Value} {t : TypeId} {r : Nat × Nat} (hb : W.heap[b]? = some (.cells cs t r)) (hn : n ≤ b) (ht : t ∉ ts) (j : Nat) (u : Value) : KeepT n ts W (W.setCell ⟨b, j, none⟩ u) :=
  ⟨(Below.refl n W).setCell (p := ⟨b, j, none⟩) hn u, fun c cur t' r ht' hc => by
    have hne : c ≠ b := by
      rintro rfl
      rw [hb] at hc
      injection hc with hc
      injection hc with _ e _
      exact ht (e ▸ ht')
    exact (Below.heap_setCell W ⟨b, j, none⟩ u c hne).trans hc⟩
theorem RI.next {Wp W U W1 : World} {B b' rb n0 : Nat} {c : List Int} {k : Nat} (h : RI Wp W B b' rb n0 c k U) (hk5 : k < 5) (hn : n0 ≤ Wp.heap.size) (hWb : Wp.heap.size ≤ b') (hbr : b' < rb) (m : Below U.heap.size U W1) (ko : KeepsOthers U W1)
    {A' : Option Addr} (hA : Row .u8 n0 U A' ((c.drop (rnO k)).drop (rnW k))) (hA2 : rnO (k + 1) < 13 → ∃ b off, A' = some ⟨b, off, none⟩) :
    RI Wp W B b' rb n0 c (k + 1) ((W1.setCell ⟨rb, k, none⟩ (.int .i64 (rv c k))).setCell ⟨b', 0, none⟩ (.slice A' (13 - rnO (k + 1)) (13 - rnO (k + 1)))) ∧
      KeepsOthers U ((W1.setCell ⟨rb, k, none⟩ (.int .i64 (rv c k))).setCell ⟨b', 0, none⟩ (.slice A' (13 - rnO (k + 1)) (13 - rnO (k + 1)))) ∧
      KeepT n0 pTs U ((W1.setCell ⟨rb, k, none⟩ (.int .i64 (rv c k))).setCell ⟨b', 0, none⟩ (.slice A' (13 - rnO (k + 1)) (13 - rnO (k + 1)))) := by
  obtain ⟨h1, h2, ⟨A, h3, h4, h5⟩, h6⟩ := h
  have e3 := bbW h3 m
  have e6 := bbW h6 m
  have hn1 : n0 ≤ U.heap.size := Nat.le_trans hn h1.size
  have f6 : (W1.setCell ⟨rb, k, none⟩ (.int .i64 (rv c k))).heap[rb]? = some (.cells (rC c (k + 1)) 63 (0, 0)) := by
    rw [heap_setCell_same W1 rb k _ _ _ e6, rC_set c hk5]
  have f3 : (W1.setCell ⟨rb, k, none⟩ (.int .i64 (rv c k))).heap[b']? = some (.cells #[.slice A (13 - rnO k) (13 - rnO k)] 30 (0, 0)) := (Below.heap_setCell _ _ _ _ (by simp; omega)).trans e3
  have kk : KeepsOthers U ((W1.setCell ⟨rb, k, none⟩ (.int .i64 (rv c k))).setCell ⟨b', 0, none⟩ (.slice A' (13 - rnO (k + 1)) (13 - rnO (k + 1)))) := ko.trans ((KeepsOthers.setCell _ _ _).trans (KeepsOthers.setCell _ _ _))
  have bl : Below Wp.heap.size U ((W1.setCell ⟨rb, k, none⟩ (.int .i64 (rv c k))).setCell ⟨b', 0, none⟩ (.slice A' (13 - rnO (k + 1)) (13 - rnO (k + 1)))) := ((m.mono h1.size).setCell (p := ⟨rb, k, none⟩) (by simp; omega) _).setCell (p := ⟨b', 0, none⟩) (by simp; omega) _
  refine ⟨⟨h1.trans bl, h2.trans (kk.from B), ⟨A', ?_, ?_, hA2⟩, (Below.heap_setCell _ _ _ _ (by simp; omega)).trans f6⟩, kk, ?_⟩
  · have := heap_setCell_same _ b' 0 _ _ (.slice A' (13 - rnO (k + 1)) (13 - rnO (k + 1))) f3
    simpa using this
  · have hd : c.drop (rnO (k + 1)) = (c.drop (rnO k)).drop (rnW k) := by rw [List.drop_drop, (rnO_succ hk5).1]
    rw [hd]
    exact hA.below (bl.mono hn)
  · refine keepT_t (keepT_t ⟨m.mono hn1, fun _ _ _ _ _ hb => bbW hb m⟩ (keepT_cell e6 (by omega) (by decide) _ _)) (keepT_cell f3 (by omega) (by decide) _ _)
theorem rowOk_at {m : Nat} {bs : List Int} {k : Nat} (h : k < m) : RwOk (rowsOf m bs) ((rowsOf m bs).take k) (rowOf ((bs.drop (13 * k)).take 13)) ∧ (rowsOf m bs).take k ++ [rowOf ((bs.drop (13 * k)).take 13)] = (rowsOf m bs).take (k + 1) := by
  have hl : ((rowsOf m bs).take k).length = k := by rw [List.length_take, rowsOf_len]; omega
  refine ⟨⟨by rw [hl, rowsOf_len]; exact h, by rw [hl], by rw [hl, rowsOf_get bs h]⟩, ?_⟩
  rw [← rowsOf_get bs h, List.take_add_one, List.getElem?_eq_getElem (by rw [rowsOf_len]; exact h)]
  rfl

set_option maxRecDepth 100000 in
set_option maxHeartbeats 8000000 in
theorem rowsIter_in (n : Nat) (hn : 8 ≤ n) (b off m L cap nb n0 : Nat) (bs : List Int) (hl : bs.length = L) (hLm : L = 13 * m) (hm : m ≤ 300) (hc : L ≤ cap) (l0 : Nat) (J Jx : List SR → World → Prop) (W0 : World) (hW0 : n0 ≤ W0.heap.size) (hb : W0.heap[nb]? = some (.cells #[.slice (some ⟨b, off, none⟩) L cap] 30 (0, 0))) (hR : Row .u8 n0 W0 (some ⟨b, off, none⟩) bs)
    (hN : ∀ pre V V', J pre V → Below V.heap.size V V' → J pre V')
    (hT : ∀ pre V l' o o', J pre V → W0.heap.size ≤ l' → V.heap[l']? = some o → o.isCells = false → J pre (V.putObj l' o')) (hTx : ∀ pre V l' o o', Jx pre V → W0.heap.size ≤ l' → V.heap[l']? = some o → o.isCells = false → Jx pre (V.putObj l' o'))
    (hY : ∀ pre x V, J pre V → RwOk (rowsOf m bs) pre x → YieldAt Fence.wide (n - 1) Try.prog l0 (encRw x) V fun e V' => (e = .returned (.bool true) ∧ J (pre ++ [x]) V' ∧ KeepT n0 bTs V V' ∧ KeepsFrom W0.heap.size V V') ∨ (e = .returned (.bool false) ∧ Jx (pre ++ [x]) V' ∧ KeepsFrom W0.heap.size V V'))
    (h0 : J [] W0) :
    CallsIn Fence.wide n Try.prog 70 (#[.func (.yield l0) #[] #[]] ++ #[.pointer (some ⟨nb, 0, none⟩)]) W0 fun e W' => (∃ v, e = .returned v) ∧
      ((∃ xs, xs = rowsOf m bs ∧ J xs W') ∨ (∃ pre, True ∧ Jx pre W')) := by
  have h1n : 1 ≤ n := by omega
  refine callsIn_of_wp_marks Try.func70 rfl trivial ?_ rfl
  simp only [Try.ntmps70, List.size_toArray, List.length_cons, List.length_nil, Nat.reduceAdd, Nat.reduceSub, Array.replicate_succ, Array.replicate_zero, List.push_toArray, List.append_toArray, List.nil_append, List.cons_append]
  have HN := Lib.hid (And.intro hN (And.intro hT hTx))
  have HY := Lib.hid hY
  have hy0 := heap_alloc_new W0 (.cells #[.func (.yield l0) #[] #[]] 106)
  have MA := (Below.refl W0.heap.size W0).alloc (Nat.le_refl _) (.cells #[.func (.yield l0) #[] #[]] 106)
  have cx := cell_of_one (bbW hb MA)
  have hsA : (W0.alloc (.cells #[.func (.yield l0) #[] #[]] 106)).heap.size = W0.heap.size + 1 := by simp
  have HR := Lib.hid hR
  have HL := Lib.hid (And.intro hl (And.intro hLm (And.intro hm hc)))
  clear hN hY hb hR hT hTx hl hLm hc hm
  gi_wp2
  generalize W0.alloc (.cells #[.func (.yield l0) #[] #[]] 106) = W1 at *
  refine ⟨trivial, (chunk_in (n - 1) (some ⟨b, off, none⟩) L cap W1).mono ?_⟩
  rintro e w1 ⟨rfl, rfl⟩
  clear cx
  have h1 := blkN (heap_alloc_new W1 (.cells #[.slice (some ⟨b, off, none⟩) L cap] 30)) (.cells #[.int .i64 13] 3)
  have h2 := newN (W1.alloc (.cells #[.slice (some ⟨b, off, none⟩) L cap] 30)) (.cells #[.int .i64 13] 3) (W1.heap.size + 1) (by simp)
  have MB := ((Below.refl W1.heap.size W1).alloc (Nat.le_refl _) (.cells #[.slice (some ⟨b, off, none⟩) L cap] 30)).alloc (by simp) (.cells #[.int .i64 13] 3)
  have hsB : ((W1.alloc (.cells #[.slice (some ⟨b, off, none⟩) L cap] 30)).alloc (.cells #[.int .i64 13] 3)).heap.size = W0.heap.size + 3 := by simp; omega
  have hy1 := bbW hy0 MB
  have JV := HN.out.1 _ _ _ h0 (MA.trans (MB.mono MA.size))
  have MV := MA.trans (MB.mono MA.size)
  rw [hsA] at h1 h2 ⊢
  clear hy0 MA MB h0
  generalize (W1.alloc (.cells #[.slice (some ⟨b, off, none⟩) L cap] 30)).alloc (.cells #[.int .i64 13] 3) = V at *
  have HV := Lib.hid (And.intro JV (And.intro hy1 (And.intro h1 (And.intro h2 (And.intro MV hsB)))))
  have hV0 : W0.heap.size ≤ V.heap.size := by omega
  clear JV hy1 h1 h2 MV hsB hsA
  gi_wp2
  refine range_okH rfl h1n (gf := 80) (lb := #[.pointer (some ⟨W0.heap.size + 1, 0, none⟩), .pointer (some ⟨W0.heap.size + 1 + 1, 0, none⟩)]) rfl trivial (enters_of Try.func80 (by kernel_rfl) rfl)
    (encs := encC b off) (Ok := fun pre x _ => x = pre.length ∧ x < m) (Kp := KeepT n0 bTs) (S := fun xs => xs = List.range m) (Sp := fun _ => True)
    (fun l J Jx W mW hN _ _ hY h0 => chunkIter_in (n - 1) (by omega) b off m L cap _ _ n0 HL.out.2.1 (by have := HL.out; omega) HL.out.2.2.2 l J Jx W (bbW HV.out.2.2.1 mW) (bbW HV.out.2.2.2.1 mW) hN (fun pre x V hj ho => dropK (hY pre x V hj ho)) h0) (fun _ _ _ _ _ _ h _ _ _ => h) keepT_t (fun W l o o' h1 h2 h3 h4 => keepT_b (by omega) W l o o' h1 h2 h3 h4) (fun _ => rfl)
    (fun pre W => J ((rowsOf m bs).take pre.length) W ∧ W.heap[W0.heap.size]? = some (.cells #[.func (.yield l0) #[] #[]] 106 (0, 0)) ∧ Below n0 W0 W) (fun c pre W => c = .ret ∧ Jx ((rowsOf m bs).take pre.length) W)
    ⟨fun _ _ _ h k => ⟨HN.out.1 _ _ _ h.1 k, bbW h.2.1 k, h.2.2.trans (k.mono (Nat.le_trans hW0 h.2.2.size))⟩, fun _ _ l o o' h hl ho hc => ⟨HN.out.2.1 _ _ _ _ _ h.1 (by omega) ho hc, (World.putObj_heap_other (fun e => other_ne h.2.1 ho hc e)).trans h.2.1, h.2.2.trans ⟨rfl, rfl, rfl, by simp [World.putObj], fun k hk => World.putObj_heap_other (by omega)⟩⟩⟩
    (fun c pre W l o o' h hl ho hc => ⟨h.1, HN.out.2.2 _ _ _ _ _ h.2 (by omega) ho hc⟩) ⟨HV.out.1, HV.out.2.1, HV.out.2.2.2.2.1.mono hW0⟩
    (fun k => .cells #[.slice (some ⟨b, off + 13 * k, none⟩) 13 13] 30) (fun _ _ _ h => h)
    (fun k b' => { tmps := #[.func (.yield l0) #[] #[], .pointer (some ⟨nb, 0, none⟩), .pointer (some ⟨W0.heap.size, 0, none⟩), .pointer (some ⟨b', 0, none⟩), undef, undef, .slice (some ⟨b, off, none⟩) L cap, .func (.func 80) #[] #[.pointer (some ⟨W0.heap.size + 1, 0, none⟩), .pointer (some ⟨W0.heap.size + 1 + 1, 0, none⟩)], .slice (some ⟨b, off + 13 * k, none⟩) 13 13, undef, undef, undef, undef, undef, undef, undef, undef, undef], defers := [] }) ?assign ?body ?done ?stop
  case assign =>
    intro l x W K hK
    simp only [encC] at hK ⊢
    gi_wp2
    exact hK
  case stop =>
    rintro D c pre W hD _ ⟨rfl, hJx⟩ hK
    have HJ := Lib.hid (HN.out.2.2 _ _ _ _ (.deferred none) hJx (by omega) hK rfl)
    have HK := Lib.hid hK
    clear hJx hK
    gi_wp2
    refine ⟨by simp, .inl ⟨_, _, rfl, run_takeDeferred HK.out, ?_⟩⟩
    exact ⟨_, results_none rfl _ _ _, ⟨_, rfl⟩, .inr ⟨_, trivial, HJ.out⟩⟩
  case done =>
    rintro D ys W hD rfl ⟨hJ, _, _⟩ hK
    have HJ := Lib.hid (HN.out.2.1 _ _ _ _ (.deferred none) hJ (by omega) hK rfl)
    have HK := Lib.hid hK
    clear hJ hK
    gi_wp2
    refine ⟨by simp, .inl ⟨_, _, rfl, run_takeDeferred HK.out, ?_⟩⟩
    refine ⟨_, results_none rfl _ _ _, ⟨_, rfl⟩, .inl ⟨_, rfl, ?_⟩⟩
    have := HJ.out
    rwa [List.length_range, List.take_of_length_le (by rw [rowsOf_len]; exact Nat.le_refl _)] at this
  case body =>
    rintro l pre k W b' Wp hl ⟨r0, hr⟩ ⟨hJ, hyb, hlo⟩ hWp hBl ⟨hk, hkm⟩ hb1 hb2 hbx
    subst hk
    have hn2 : n0 ≤ Wp.heap.size := Nat.le_trans hW0 hlo.size
    have hyl := (Array.getElem?_eq_some_iff.1 hyb).1
    have hWpW : Wp.heap.size ≤ W.heap.size := by omega
    have hRow : Row .u8 n0 W (some ⟨b, off + 13 * pre.length, none⟩) ((bs.drop (13 * pre.length)).take 13) := (((HR.out.below hlo).below (hBl.mono (by omega))).drop (13 * pre.length)).take 13
    have hcl : ((bs.drop (13 * pre.length)).take 13).length = 13 := by
      rw [List.length_take, List.length_drop]
      have := HL.out
      omega
    have HC := Lib.hid hcl
    have HE := Lib.hid (rowOk_at (bs := bs) hkm)
    have HP := Lib.hid (And.intro hJ (And.intro hyb hlo))
    clear hcl hJ hlo
    generalize (bs.drop (13 * pre.length)).take 13 = c at *
    gi_wp2_with fail
    have hrz := heap_alloc_new W (.cells #[.int .i64 0, .int .i64 0, .int .i64 0, .int .i64 0, .int .i64 0] 63)
    have M2 := (Below.refl W.heap.size W).alloc (Nat.le_refl _) (.cells #[.int .i64 0, .int .i64 0, .int .i64 0, .int .i64 0, .int .i64 0] 63)
    refine ⟨trivial, (fun _ => by omega), CallsIn.inRound l ((rowNumbers_in (n - 1 - 1 - 1) W.heap.size _).mono ?_)⟩
    rintro e w5 ⟨rfl, rfl⟩
    have hs2 : (W.alloc (.cells #[.int .i64 0, .int .i64 0, .int .i64 0, .int .i64 0, .int .i64 0] 63)).heap.size = W.heap.size + 1 := by simp
    generalize W.alloc (.cells #[.int .i64 0, .int .i64 0, .int .i64 0, .int .i64 0, .int .i64 0] 63) = W2 at *
    have hp3 := heap_alloc_new W2 (.cells #[.pointer (some ⟨W.heap.size, 0, none⟩)] 84)
    have M3 := (Below.refl W2.heap.size W2).alloc (Nat.le_refl _) (.cells #[.pointer (some ⟨W.heap.size, 0, none⟩)] 84)
    have MM := M2.trans (M3.mono M2.size)
    have hr3 := bbW hr MM
    have R0 : RI Wp W V.heap.size b' W.heap.size n0 c 0 (W2.alloc (.cells #[.pointer (some ⟨W.heap.size, 0, none⟩)] 84)) :=
      ⟨(hWp ▸ hBl).trans (MM.mono hWpW), ⟨MM.size, fun k o _ hk _ => bbW hk MM⟩, ⟨some ⟨b, off + 13 * pre.length, none⟩, by simpa [rnO] using bbW hbx MM, by simpa [rnO] using hRow.below (MM.mono (by omega)), fun _ => ⟨_, _, rfl⟩⟩, by rw [rC_zero]; exact bbW hrz M3⟩
    have hsz3 : W.heap.size ≤ (W2.alloc (.cells #[.pointer (some ⟨W.heap.size, 0, none⟩)] 84)).heap.size := MM.size
    rw [hs2] at hp3 ⊢
    clear hrz M2 M3 MM hr hRow hbx hBl
    generalize W2.alloc (.cells #[.pointer (some ⟨W.heap.size, 0, none⟩)] 84) = W3 at *
    have HR0 := Lib.hid R0
    have HP3 := Lib.hid hp3
    have HR3 := Lib.hid hr3
    clear R0 hp3 hr3
    generalize hrb : W.heap.size = rb at *
    gi_wp2_with fail
    refine range_okN (F := Fence.wide.inRound l) (l₀ := l) rfl HR3.out (by omega) (gf := 69) (lb := #[.pointer (some ⟨rb + 1, 0, none⟩)]) rfl trivial (enters_of Try.func69 (by kernel_rfl) rfl)
      (encs := rnE rb) (Ok := fun pre x _ => x = pre.length ∧ x < 5) (Kp := KeepT n0 pTs) (S := fun xs => xs = [0, 1, 2, 3, 4]) (Sp := fun _ => True)
      (SeqOkT.inRound l (fun l J Jx Wq mW hN _ _ hY h0 => rowNums_in (n - 1 - 1 - 1) (by omega) l (rb + 1) rb n0 Wq J Jx (bbW HP3.out mW) (fun pre x V hj ho => dropK (hY pre x V hj ho)) h0)) (fun _ _ _ _ _ _ h _ _ _ => h) keepT_t (fun W l o o' h1 h2 h3 h4 => keepT_b (by omega) W l o o' h1 h2 h3 h4) (fun _ => rfl)
      (fun q U => RI Wp W V.heap.size b' rb n0 c q.length U) (fun _ _ _ => False) ⟨fun _ _ _ h k => h.far hn2 k ⟨k.size, fun i o _ hx _ => bbW hx k⟩, fun _ _ l o o' h hl ho hc => h.turn hn2 (by omega) o' (by omega) ho hc⟩ (fun _ _ _ _ _ _ h _ _ _ => h) HR0.out
      (fun k => .cells #[.pointer (some ⟨rb, k, none⟩), .int .i64 (rnP k), .int .i64 (rnW k : Nat)] 81) (fun W _ h => keepT_new _ (by omega)) (fun _ _ _ h => h)
      (fun k bn => { tmps := #[.func (.yield l0) #[] #[], .pointer (some ⟨nb, 0, none⟩), .pointer (some ⟨W0.heap.size, 0, none⟩), .pointer (some ⟨b', 0, none⟩), .pointer (some ⟨rb, 0, none⟩), .pointer (some ⟨bn, 0, none⟩), .slice (some ⟨b, off, none⟩) L cap, .func (.func 80) #[] #[.pointer (some ⟨W0.heap.size + 1, 0, none⟩), .pointer (some ⟨W0.heap.size + 1 + 1, 0, none⟩)], .slice (some ⟨b, off + 13 * pre.length, none⟩) 13 13, .func (.func 69) #[] #[.pointer (some ⟨rb + 1, 0, none⟩)], nmV ⟨rb, k, none⟩ (rnP k) (rnW k : Nat), undef, undef, undef, undef, undef, undef, undef], defers := [] }) ?assign2 ?body2 ?done2 ?stop2
    case assign2 =>
      intro l x W K hK
      simp only [rnE] at hK ⊢
      gi_wp2
      exact hK
    case stop2 =>
      rintro c pre W _ h
      exact h.elim
    case body2 =>
      rintro l2 pre2 j U bn hRI ⟨hj, hj5⟩ hb21 hb22 hbn
      subst hj
      obtain ⟨A, hA, hRowA, hAs⟩ := hRI.pt
      obtain ⟨g1, g2, g3, g4, g5⟩ := rnO_succ hj5
      obtain ⟨ba, oa, rfl⟩ := hAs (by omega)
      obtain ⟨x, hx⟩ := rC_cell hRI.rw' hj5
      have fx := sh_frozen hRI.rw' pre2.length
      have hrU := (Array.getElem?_eq_some_iff.1 hRI.rw').1
      have hnU : n0 ≤ U.heap.size := Nat.le_trans hn2 hRI.lo.size
      have hlc : (c.drop (rnO pre2.length)).length = 13 - rnO pre2.length := by rw [List.length_drop, HC.out]
      have KT := Lib.hid (ntake_any rb pre2.length x (rnP pre2.length) g5 (rnW pre2.length) ⟨g3, g4⟩ ba oa (13 - rnO pre2.length) (13 - rnO pre2.length) (c.drop (rnO pre2.length)) hlc (by omega) (Nat.le_refl _) U n0 hnU hrU hx fx hRowA)
      have e13 : 13 - rnO pre2.length - rnW pre2.length = 13 - rnO (pre2.length + 1) := by omega
      have cv := cell_of_one hA
      obtain ⟨c0, c1, c2⟩ := numb_cells hbn
      have HRI := Lib.hid hRI
      have HA := Lib.hid hA
      clear hRI hA hRowA hAs hx fx hrU hnU hlc hbn g1 g2 g3 g4 g5
      gi_wp2_with fail
      refine ⟨trivial, (fun _ => by omega), CallsIn.inRound l2 (CallsIn.inRound l (callsIn_wide.2 (KT.out.mono ?_)))⟩
      rintro e U2 ⟨he, W1', mW1, kW1, rfl, hRow2⟩
      rw [e13] at he
      have hA2 : ∃ b off, (if 13 - rnO pre2.length = rnW pre2.length then some ⟨ba, oa, none⟩ else some ⟨ba, oa + rnW pre2.length, none⟩ : Option Addr) = some ⟨b, off, none⟩ := by split <;> exact ⟨_, _, rfl⟩
      generalize (if 13 - rnO pre2.length = rnW pre2.length then some ⟨ba, oa, none⟩ else some ⟨ba, oa + rnW pre2.length, none⟩ : Option Addr) = A' at *
      subst he
      have HX := Lib.hid (HRI.out.next hj5 hn2 (by omega) hb2 mW1 kW1 hRow2 (fun _ => hA2))
      have hb1' : ((W1'.setCell ⟨rb, pre2.length, none⟩ (.int .i64 (numOf ((c.drop (rnO pre2.length)).take (rnW pre2.length)) - rnP pre2.length))).heap[b']? = some (.cells #[.slice (some ⟨ba, oa, none⟩) (13 - rnO pre2.length) (13 - rnO pre2.length)] 30 (0, 0))) := (Below.heap_setCell _ _ _ _ (by simp; omega)).trans (bbW HA.out mW1)
      have cv1 := cell_of_one hb1'
      have fv1 := sh_frozen hb1' 0
      clear mW1 kW1 hRow2 hA2 hb1' cv c0 c1 c2 e13
      gi_wp2
      exact ⟨HX.out.2.1.from _, HX.out.2.2, by (show RI Wp W V.heap.size b' rb n0 c (pre2 ++ [pre2.length]).length _); rw [List.length_append, List.length_singleton]; exact HX.out.1⟩
    case done2 =>
      rintro ys U rfl hRI
      simp only [List.length_cons, List.length_nil, Nat.reduceAdd] at hRI
      have hrw := hRI.rw'
      rw [rC_five] at hrw
      have hyU := (hRI.lo.block _ hyl).trans HP.out.2.1
      have hJU := HN.out.1 _ _ _ HP.out.1 hRI.lo
      have hKU : KeepT n0 bTs Wp U := ⟨hRI.lo.mono hn2, fun _ _ _ _ _ hb => bbW hb hRI.lo⟩
      have HRI := Lib.hid hRI
      obtain ⟨fn, tmps, assign, body, hy, hr⟩ := HY.out _ _ U hJU HE.out.1
      have cy := cell_of_one hyU
      have HKU := Lib.hid (And.intro hKU hyU)
      have HEE := Lib.hid HE.out.2
      clear hRI hJU hKU hyU HE HC
      generalize rowOf c = u at *
      obtain ⟨u0, u1, u2, u3, u4⟩ := u
      obtain ⟨x0, x1, x2, x3, x4⟩ := sr_cells _ _ _ _ _ hrw
      have y : (Instr.yield l0 #[.agg #[.int .i64 u0, .int .i64 u1, .int .i64 u2, .int .i64 u3, .int .i64 u4]]).run Try.prog U = .ok (.round l0 fn tmps assign body) U := hy
      have HRR := Lib.hid hr
      clear hy hr hrw
      gi_wp2_with fail
      refine ⟨fun _ => by omega, (roundIn_wide l rfl HRR.out).mono ?_⟩
      clear y cy x0 x1 x2 x3 x4 HRR
      rintro e U3 (⟨rfl, j3, k3, f3⟩ | ⟨rfl, jx, f3⟩)
      · have HJ3 := Lib.hid (And.intro j3 (And.intro k3 f3))
        clear j3 k3 f3
        gi_wp2
        refine ⟨HRI.out.kf.trans (keepsFrom_le hV0 HJ3.out.2.2), keepT_t HKU.out.1 HJ3.out.2.1, ?_, HJ3.out.2.1.2 _ _ _ _ (by decide) HKU.out.2, (HP.out.2.2.trans (HRI.out.lo.mono hn2)).trans HJ3.out.2.1.1⟩
        rw [List.length_append, List.length_singleton, ← HEE.out]
        exact HJ3.out.1
      · have HJ3 := Lib.hid (And.intro jx f3)
        clear jx f3
        gi_wp2
        refine ⟨HRI.out.kf.trans (keepsFrom_le hV0 HJ3.out.2), rfl, ?_⟩
        rw [List.length_append, List.length_singleton, ← HEE.out]
        exact HJ3.out.1
theorem rowsIn_ok (n : Nat) (hn : 8 ≤ n) (b off m L cap nb n0 : Nat) (bs : List Int) (hl : bs.length = L) (hLm : L = 13 * m) (hm : m ≤ 300) (hc : L ≤ cap) (w : World) (hw : n0 ≤ w.heap.size) (hb : w.heap[nb]? = some (.cells #[.slice (some ⟨b, off, none⟩) L cap] 30 (0, 0))) (hR : Row .u8 n0 w (some ⟨b, off, none⟩) bs) :
    RwSeq n 70 #[.pointer (some ⟨nb, 0, none⟩)] (rowsOf m bs) n0 w :=
  fun l J Jx W mW hN hT hTx hY h0 => rowsIter_in n hn b off m L cap nb n0 bs hl hLm hm hc l J Jx W (Nat.le_trans hw mW.size) (bbW hb mW) (hR.below (mW.mono hw)) hN hT hTx hY h0
end Go.Proofs.Ythgoopdekllanaa
