/- What 'handfast/ip.Put' answers. -/
import Derived.Test.YtjofijigfkkidaaDoorIpI
namespace Go.Proofs.YtjofijigfkkidaaDoor
open Go.RowKit Go.Shelf
open SumM

attribute [local go_sem] Oper.semAt_some

set_option maxHeartbeats 1000000 in
theorem numbersOf_in (n : Nat) (sv nu fl ho pr sr ds : Int) (oa : Option Addr) (on oc : Nat) (pa : Option Addr) (pn pc : Nat) (w : World) :
    CallsIn Fence.wide n Tryd.prog 24 #[.agg #[.int .u8 sv, .int .u16 nu, .int .u16 fl, .int .u8 ho, .int .u8 pr, .int .u32 sr, .int .u32 ds, .slice oa on oc, .slice pa pn pc]] w fun e w' => e = .returned (.func (.func 38) #[] #[.pointer (some ⟨w.heap.size, 0, none⟩)]) ∧ w' = w.alloc (.cells #[.int .u8 sv, .int .u16 nu, .int .u16 fl, .int .u8 ho, .int .u8 pr, .int .u32 sr, .int .u32 ds, .slice oa on oc, .slice pa pn pc] 26) := by
  refine callsIn_of_wp Tryd.func24 rfl trivial ?_ rfl
  simp only [Tryd.ntmps24, List.size_toArray, List.length_cons, List.length_nil, Nat.reduceAdd, Nat.reduceSub, Array.replicate_succ, Array.replicate_zero, List.push_toArray, List.append_toArray, List.nil_append, List.cons_append]
  gi_wp2
  go_ret
  exact ⟨rfl, rfl⟩

/-- What a head's numbers are of. -/
structure Nums (sv nu fl ho pr sr ds : Int) : Prop where
  hsv : 0 ≤ sv ∧ sv ≤ 255
  hnu : 0 ≤ nu ∧ nu ≤ 65535
  hfl : 0 ≤ fl ∧ fl ≤ 65535
  hho : 0 ≤ ho ∧ ho ≤ 255
  hpr : 0 ≤ pr ∧ pr ≤ 255
  hsr : 0 ≤ sr ∧ sr ≤ 4294967295
  hds : 0 ≤ ds ∧ ds ≤ 4294967295

theorem nums_stops (sv nu fl ho pr sr ds : Int) (oa : Option Addr) (on oc : Nat) (pa : Option Addr) (pn pc : Nat) (n : Nat) (hn : 1 ≤ n) (Bs n₀ : Nat) (H : Nums sv nu fl ho pr sr ds) (hrt : rightB fl on pn = true) (w : World) (hn₀ : n₀ ≤ w.heap.size) (hg₀ : 0 < n₀)
    (hB : w.heap[Bs]? = some (.cells #[.int .u8 sv, .int .u16 nu, .int .u16 fl, .int .u8 ho, .int .u8 pr, .int .u32 sr, .int .u32 ds, .slice oa on oc, .slice pa pn pc] 26 (0, 0))) (hW : Wid w) :
    SeqStopsK Fence.wide n Tryd.prog 38 #[.pointer (some ⟨Bs, 0, none⟩)] (fun x : WN => #[.int .i64 x.1.1, .int .u32 x.1.2]) (KeepT n₀ [50, 26])
      (fun ys => ys.map (·.1) = (List.range 10).map (fun i => (widthAt i, numAt sv nu fl ho pr sr ds on pn i))) (fun pre => pre.length ≤ 10) 10 w := fun l J Jx W hWb hJ _ hY h0 =>
  nums_in sv nu fl ho pr sr ds oa on oc pa pn pc n hn l Bs n₀ H.hsv H.hnu H.hfl H.hho H.hpr H.hsr H.hds hrt J Jx W hJ (Nat.le_trans hn₀ hWb.size) hg₀ hY ((hWb.block Bs (Array.getElem?_eq_some_iff.1 hB).1).trans hB)
    (fun i hi => (hWb.cell (p := ⟨0, i, none⟩) (Nat.lt_of_lt_of_le hg₀ hn₀)).trans (hW i hi)) h0

/-- The bytes of widths and numbers. -/
def bytesOf (l : List WN) : List Int := l.flatMap fun x => be x.1.1 x.1.2
theorem bytesOf_snoc (l : List WN) (x : WN) : bytesOf (l ++ [x]) = bytesOf l ++ be x.1.1 x.1.2 := by simp [bytesOf]
theorem be_length (k : Nat) (n : Int) : (be k n).length = k := by simp [be, upto]
theorem bytesOf_le (l : List WN) : (bytesOf l).length ≤ 4 * l.length := by
  induction l with
  | nil => simp [bytesOf]
  | cons x r ih =>
    have e : bytesOf (x :: r) = be x.1.1 x.1.2 ++ bytesOf r := by simp [bytesOf]
    have := x.2.2.2
    rw [e, List.length_append, be_length, List.length_cons]
    omega
/-- A head's bytes, without its check, without what it bears. -/
def headOf (sv nu fl ho pr sr ds : Int) (on pn : Nat) (os : List Int) : List Int :=
  ((List.range 10).flatMap fun i => be (widthAt i) (numAt sv nu fl ho pr sr ds on pn i)) ++ os
theorem bytesOf_all {sv nu fl ho pr sr ds : Int} {on pn : Nat} {ys : List WN} (h : ys.map (·.1) = (List.range 10).map (fun i => (widthAt i, numAt sv nu fl ho pr sr ds on pn i))) : bytesOf ys = (List.range 10).flatMap fun i => be (widthAt i) (numAt sv nu fl ho pr sr ds on pn i) := by
  have e : bytesOf ys = (ys.map (·.1)).flatMap fun x => be x.1 x.2 := by simp [bytesOf, List.flatMap_map]
  rw [e, h]
  simp [List.flatMap_map]

/-- The nine cells of a head in a box. -/
theorem head_cells {w : World} {b : Nat} (sv nu fl ho pr sr ds : Int) (oa : Option Addr) (on oc : Nat) (pa : Option Addr) (pn pc : Nat) (h : w.heap[b]? = some (.cells #[.int .u8 sv, .int .u16 nu, .int .u16 fl, .int .u8 ho, .int .u8 pr, .int .u32 sr, .int .u32 ds, .slice oa on oc, .slice pa pn pc] 26 (0, 0))) :
    w.cell? ⟨b, 0, none⟩ = some (.int .u8 sv) ∧ w.cell? ⟨b, 1, none⟩ = some (.int .u16 nu) ∧ w.cell? ⟨b, 2, none⟩ = some (.int .u16 fl) ∧ w.cell? ⟨b, 3, none⟩ = some (.int .u8 ho) ∧ w.cell? ⟨b, 4, none⟩ = some (.int .u8 pr) ∧
    w.cell? ⟨b, 5, none⟩ = some (.int .u32 sr) ∧ w.cell? ⟨b, 6, none⟩ = some (.int .u32 ds) ∧ w.cell? ⟨b, 7, none⟩ = some (.slice oa on oc) ∧ w.cell? ⟨b, 8, none⟩ = some (.slice pa pn pc) := by
  refine ⟨?_, ?_, ?_, ?_, ?_, ?_, ?_, ?_, ?_⟩
  all_goals (rw [cell_of_row _ _ _ _ _ _ h]; rfl)

/-- A head's bytes, with its check and what it bears. -/
def putOf (sv nu fl ho pr sr ds : Int) (on pn : Nat) (os ps : List Int) : List Int :=
  (((headOf sv nu fl ho pr sr ds on pn os).set 10 ((65535 - sumOf (headOf sv nu fl ho pr sr ds on pn os)) / 256)).set 11 ((65535 - sumOf (headOf sv nu fl ho pr sr ds on pn os)) % 256)) ++ ps
theorem putOf_def (sv nu fl ho pr sr ds : Int) (on pn : Nat) (os ps : List Int) : putOf sv nu fl ho pr sr ds on pn os ps =
  (((headOf sv nu fl ho pr sr ds on pn os).set 10 ((65535 - sumOf (headOf sv nu fl ho pr sr ds on pn os)) / 256)).set 11 ((65535 - sumOf (headOf sv nu fl ho pr sr ds on pn os)) % 256)) ++ ps := rfl
/-- Bytes in memory of the call's own, and true. -/
def PutRet (zs : List Int) (w : World) (e : Ending) (w' : World) : Prop :=
  ∃ A c, e = .returned (.tuple #[.slice A zs.length c, .bool true]) ∧ w'.ownsRow w.heap.size 5 1 (.slice A zs.length c) zs.length (zs.map (Value.int .u8)) ∧ Below w.heap.size w w'
theorem be_in (k : Nat) (n : Int) : In 255 (be k n) := by
  intro x hx
  simp only [be, upto, List.mem_map] at hx
  obtain ⟨i, _, rfl⟩ := hx
  omega
theorem headOf_in {sv nu fl ho pr sr ds : Int} {on pn : Nat} {os : List Int} (h : In 255 os) : In 255 (headOf sv nu fl ho pr sr ds on pn os) := by
  intro x hx
  simp only [headOf, List.mem_append, List.mem_flatMap] at hx
  rcases hx with ⟨i, _, hx⟩ | hx
  · exact be_in _ _ x hx
  · exact h x hx
theorem headOf_wf {sv nu fl ho pr sr ds : Int} {on pn : Nat} {os : List Int} (h : ∀ n ∈ os, (Lit.int .u8 n).wf = true) : ∀ n ∈ headOf sv nu fl ho pr sr ds on pn os, (Lit.int .u8 n).wf = true := fun n hn =>
  wf_u8.2 (headOf_in (fun x hx => wf_u8.1 (h x hx)) n hn)
theorem own_ne {w : World} {base : Nat} {e : TypeId} {v : Value} {n : Nat} {xs : List Value} (h : w.ownsRow base e 1 v n xs) {b : Nat} (hb : b < base) : some b ≠ v.ownBlock := fun e => by
  have := (h.lt b e.symm).1
  omega
theorem own_base {w : World} {base b' : Nat} {e : TypeId} {v : Value} {n : Nat} {xs : List Value} (h : w.ownsRow base e 1 v n xs) (hb : b' ≤ base) : w.ownsRow b' e 1 v n xs := by
  refine ⟨h.1, ?_⟩
  rcases h.2 with h' | ⟨g, cap, cur, h1, h2, h3⟩
  · exact .inl h'
  · exact .inr ⟨g, cap, cur, h1, by omega, h3⟩
theorem own_others {w w' : World} {base : Nat} {e : TypeId} {v : Value} {n : Nat} {xs : List Value} (h : w.ownsRow base e 1 v n xs) (hg : w.grownBy w' v.ownBlock) : KeepsOthers w w' :=
  KeepsOthers.of_grownBy hg fun j x hj hx => by
    rcases h.2 with ⟨rfl, _⟩ | ⟨g, cap, cur', rfl, _, hb, _⟩
    · cases hj
    · simp only [Value.ownBlock, Option.some.injEq] at hj
      subst hj
      rw [hb] at hx
      injection hx with hx
      rw [← hx]
      rfl

set_option maxRecDepth 100000 in
set_option maxHeartbeats 8000000 in
theorem ipPut_in (sv nu fl ho pr sr ds : Int) (oa : Option Addr) (on oc : Nat) (pa : Option Addr) (pn pc : Nat) (n : Nat) (hn : 4 ≤ n) (os ps : List Int) (H : Nums sv nu fl ho pr sr ds) (hrt : rightB fl on pn = true) (w : World) (hg : 0 < w.heap.size) (hW : Wid w)
    (hro : Row .u8 w.heap.size w oa os) (hol : os.length = on) (hon : oa = none → oc = 0) (hrp : Row .u8 w.heap.size w pa ps) (hpl : ps.length = pn) (hpn : pa = none → pc = 0) :
    CallsIn Fence.wide n Tryd.prog 10 #[.agg #[.int .u8 sv, .int .u16 nu, .int .u16 fl, .int .u8 ho, .int .u8 pr, .int .u32 sr, .int .u32 ds, .slice oa on oc, .slice pa pn pc]] w (PutRet (putOf sv nu fl ho pr sr ds on pn os ps) w) := by
  have hsz := rightB_le hrt
  have h1n : 1 ≤ n := by omega
  have HH := Lib.hid H
  have HR := Lib.hid hrt
  clear H hrt
  refine callsIn_of_wp_marks Tryd.func10 rfl trivial ?_ rfl
  simp only [Tryd.ntmps10, List.size_toArray, List.length_cons, List.length_nil, Nat.reduceAdd, Nat.reduceSub, Array.replicate_succ, Array.replicate_zero, List.push_toArray, List.append_toArray, List.nil_append, List.cons_append]
  obtain ⟨i0, hi, hz0, hz1, hz2⟩ := info_parts Tryd.infoU8
  gi_wp2
  rw [wpIn_wide]
  refine wp_scope_jumps 0 (fun _ _ => False) (fun _ _ => 0) rfl ?first (fun _ _ h => h.elim)
  rw [← wpIn_wide (n := n)]
  have bH := heap_alloc_new w (.cells #[.int .u8 sv, .int .u16 nu, .int .u16 fl, .int .u8 ho, .int .u8 pr, .int .u32 sr, .int .u32 ds, .slice oa on oc, .slice pa pn pc] 26)
  have bB := heap_alloc_new (w.alloc (.cells #[.int .u8 sv, .int .u16 nu, .int .u16 fl, .int .u8 ho, .int .u8 pr, .int .u32 sr, .int .u32 ds, .slice oa on oc, .slice pa pn pc] 26)) (.cells #[.slice none 0 0] 24)
  rw [World.size_alloc] at bB
  have bH2 := (Below.heap_alloc _ (.cells #[.slice none 0 0] 24) w.heap.size (by simp)).trans bH
  have L0 : Below w.heap.size w ((w.alloc (.cells #[.int .u8 sv, .int .u16 nu, .int .u16 fl, .int .u8 ho, .int .u8 pr, .int .u32 sr, .int .u32 ds, .slice oa on oc, .slice pa pn pc] 26)).alloc (.cells #[.slice none 0 0] 24)) := ((Below.refl _ w).alloc (Nat.le_refl _) _).alloc (by simp) _
  have hs0 : ((w.alloc (.cells #[.int .u8 sv, .int .u16 nu, .int .u16 fl, .int .u8 ho, .int .u8 pr, .int .u32 sr, .int .u32 ds, .slice oa on oc, .slice pa pn pc] 26)).alloc (.cells #[.slice none 0 0] 24)).heap.size = w.heap.size + 2 := by simp
  gi_wp2_with fail
  generalize (w.alloc (.cells #[.int .u8 sv, .int .u16 nu, .int .u16 fl, .int .u8 ho, .int .u8 pr, .int .u32 sr, .int .u32 ds, .slice oa on oc, .slice pa pn pc] 26)).alloc (.cells #[.slice none 0 0] 24) = W0 at *
  refine ⟨trivial, (callsIn_wide.2 (ipRight_any sv nu fl ho pr sr ds oa on oc pa pn pc W0 (by omega) (by omega))).mono ?_⟩
  rintro e w1 ⟨rfl, m1⟩
  rw [HR.out]
  have c1 : w1.heap[w.heap.size]? = some (.cells #[.int .u8 sv, .int .u16 nu, .int .u16 fl, .int .u8 ho, .int .u8 pr, .int .u32 sr, .int .u32 ds, .slice oa on oc, .slice pa pn pc] 26 (0, 0)) := (m1.block _ (by omega)).trans bH2
  have d1 : Boxed w1 (w.heap.size + 1) 24 (.slice none 0 0) := (m1.block _ (by omega)).trans bB
  have L1 := L0.trans (m1.mono L0.size)
  have s1 := m1.size
  clear bH bB bH2
  obtain ⟨q0, q1, q2, q3, q4, q5, q6, q7, q8⟩ := head_cells _ _ _ _ _ _ _ _ _ _ _ _ _ c1
  gi_wp2_with fail
  refine ⟨trivial, (callsIn_wide.2 (ipSize_yes sv nu fl ho pr sr ds oa on oc pa pn pc w1 HR.out)).mono ?_⟩
  rintro e w2 ⟨rfl, m2⟩
  have c2 := (m2.block _ (by omega)).trans c1
  have d2 : Boxed w2 (w.heap.size + 1) 24 (.slice none 0 0) := (m2.block _ (by omega)).trans d1
  have L2 := L1.trans (m2.mono L1.size)
  have s2 := m2.size
  clear q0 q1 q2 q3 q4 q5 q6 q7 q8 c1 d1 L0 L1 m1 m2
  have hcB2 := d2.cell
  gi_wp2_with (gi_at_make; refine wpListIn_make_own _ rfl _ _ _ rfl w2.heap.size 5 i0 (.int .u8 0) 1 Tryd.underlying24 hi hz0 hz1 .i64 .i64 (20 + (on : Int) + pn) (20 + on + pn) rfl rfl (by omega) (by rw [hz2]; omega) (by unfold maxLen; omega) (Nat.le_refl _) ?_; intro w3 hown3 hgrow3; have c3 := (hgrow3.block _ (by omega) (by simp)).trans c2; have d3 := d2.kept hgrow3 (by simp); have s3 := hgrow3.size; have L3 := L2.grown hgrow3 (by omega) (fun k e => by cases e); have hcB3 := d3.cell; have hfB3 := d3.frozen; obtain ⟨q0, q1, q2, q3, q4, q5, q6, q7, q8⟩ := head_cells _ _ _ _ _ _ _ _ _ _ _ _ _ c3)
  refine ⟨trivial, (numbersOf_in (n - 1) sv nu fl ho pr sr ds oa on oc pa pn pc _).mono ?_⟩
  rintro e w5 ⟨rfl, rfl⟩
  have hlb : w.heap.size + 1 < w2.heap.size := by omega
  have O4 := own_setBelow hown3 ⟨w.heap.size + 1, 0, none⟩ hlb (.slice (some ⟨w2.heap.size, 0, none⟩) 0 (20 + on + pn))
  have c4 := (Below.heap_setCell w3 ⟨w.heap.size + 1, 0, none⟩ (.slice (some ⟨w2.heap.size, 0, none⟩) 0 (20 + on + pn)) w.heap.size (by simp)).trans c3
  have B4 := d3.set (.slice (some ⟨w2.heap.size, 0, none⟩) 0 (20 + on + pn))
  have L4 := L3.setCell (p := ⟨w.heap.size + 1, 0, none⟩) (by simp) (.slice (some ⟨w2.heap.size, 0, none⟩) 0 (20 + on + pn))
  have s4 : w2.heap.size ≤ (w3.setCell ⟨w.heap.size + 1, 0, none⟩ (.slice (some ⟨w2.heap.size, 0, none⟩) 0 (20 + on + pn))).heap.size := by simpa using s3
  have e4 : w3.heap.size = (w3.setCell ⟨w.heap.size + 1, 0, none⟩ (.slice (some ⟨w2.heap.size, 0, none⟩) 0 (20 + on + pn))).heap.size := by simp
  clear q0 q1 q2 q3 q4 q5 q6 q7 q8 hcB2 hcB3 hfB3 hown3 hgrow3 c3 d3 L3 c2 d2 L2
  generalize w3.setCell ⟨w.heap.size + 1, 0, none⟩ (.slice (some ⟨w2.heap.size, 0, none⟩) 0 (20 + on + pn)) = W4 at *
  generalize hS4 : (.slice (some ⟨w2.heap.size, 0, none⟩) 0 (20 + on + pn) : Value) = S4 at *
  generalize hHD : (.agg #[.int .u8 sv, .int .u16 nu, .int .u16 fl, .int .u8 ho, .int .u8 pr, .int .u32 sr, .int .u32 ds, .slice oa on oc, .slice pa pn pc] : Value) = HD
  have bC := heap_alloc_new W4 (.cells #[.int .u8 sv, .int .u16 nu, .int .u16 fl, .int .u8 ho, .int .u8 pr, .int .u32 sr, .int .u32 ds, .slice oa on oc, .slice pa pn pc] 26)
  have bH5 := (Below.heap_alloc W4 (.cells #[.int .u8 sv, .int .u16 nu, .int .u16 fl, .int .u8 ho, .int .u8 pr, .int .u32 sr, .int .u32 ds, .slice oa on oc, .slice pa pn pc] 26) w.heap.size (by omega)).trans c4
  have B5 := B4.alloc (.cells #[.int .u8 sv, .int .u16 nu, .int .u16 fl, .int .u8 ho, .int .u8 pr, .int .u32 sr, .int .u32 ds, .slice oa on oc, .slice pa pn pc] 26)
  have O5 := O4.alloc (.cells #[.int .u8 sv, .int .u16 nu, .int .u16 fl, .int .u8 ho, .int .u8 pr, .int .u32 sr, .int .u32 ds, .slice oa on oc, .slice pa pn pc] 26)
  have L5 := L4.alloc (by omega) (.cells #[.int .u8 sv, .int .u16 nu, .int .u16 fl, .int .u8 ho, .int .u8 pr, .int .u32 sr, .int .u32 ds, .slice oa on oc, .slice pa pn pc] 26)
  have W5 : Wid (W4.alloc (.cells #[.int .u8 sv, .int .u16 nu, .int .u16 fl, .int .u8 ho, .int .u8 pr, .int .u32 sr, .int .u32 ds, .slice oa on oc, .slice pa pn pc] 26)) := fun i hi => (L5.cell (p := ⟨0, i, none⟩) hg).trans (hW i hi)
  have hz5 : (W4.alloc (.cells #[.int .u8 sv, .int .u16 nu, .int .u16 fl, .int .u8 ho, .int .u8 pr, .int .u32 sr, .int .u32 ds, .slice oa on oc, .slice pa pn pc] 26)).heap.size = W4.heap.size + 1 := by simp
  clear B4 O4 L4 c4
  gi_wp2
  generalize hW5 : W4.alloc (.cells #[.int .u8 sv, .int .u16 nu, .int .u16 fl, .int .u8 ho, .int .u8 pr, .int .u32 sr, .int .u32 ds, .slice oa on oc, .slice pa pn pc] 26) = V at *
  refine wpIn_rangeFunc_ownG rfl h1n (gf := 38) (lb := #[.pointer (some ⟨W4.heap.size, 0, none⟩)]) rfl trivial (enters_of Tryd.func38 (by kernel_rfl) rfl)
    (nums_stops sv nu fl ho pr sr ds oa on oc pa pn pc (n - 1) (by omega) W4.heap.size w.heap.size HH.out HR.out V (by omega) hg bC W5) keepT_t (keepT_b (by omega)) (Below.refl _ _) (fun _ => rfl)
    (fun pre W => ∃ v, Boxed W (w.heap.size + 1) 24 v ∧ W.ownsRow w2.heap.size 5 1 v (bytesOf pre).length ((bytesOf pre).map (Value.int .u8)) ∧ Below w.heap.size w W ∧ W.heap[w.heap.size]? = some (.cells #[.int .u8 sv, .int .u16 nu, .int .u16 fl, .int .u8 ho, .int .u8 pr, .int .u32 sr, .int .u32 ds, .slice oa on oc, .slice pa pn pc] 26 (0, 0)) ∧ V.heap.size ≤ W.heap.size)
    (fun _ _ _ => False)
    ?own
    (fun _ _ _ _ _ hs _ _ => hs)
    ⟨S4, B5, O5, L5, bH5, Nat.le_refl _⟩
    (fun x => { tmps := #[HD, .pointer (some ⟨w.heap.size, 0, none⟩), .slice none 0 0, .bool false, .pointer (some ⟨w.heap.size + 1, 0, none⟩), .int .i64 x.1.1, .int .u32 x.1.2, HD, .bool true, .bool false, HD, .int .i64 (20 + (on : Int) + pn), S4, HD, .func (.func 38) #[] #[.pointer (some ⟨W4.heap.size, 0, none⟩)], .int .i64 x.1.1, .int .u32 x.1.2, undef, undef, undef, undef, undef, undef, undef, undef, undef, undef, undef, undef, undef, undef, undef, undef], defers := [] }) ?assign ?body ?done ?stop
  case own =>
    rintro pre W W' row ⟨v, hX, hO, hb, hh, hv⟩ hgr hr
    have hr2 := fun r e => (hr r e).2
    exact ⟨v, hX.kept hgr (fun e => by have := (hr _ e.symm).1; omega), own_abides hO hgr hr2, hb.grown hgr hb.size (fun k e => by have := (hr k e).1; omega), (hgr.block _ (by omega) (fun e => by have := (hr _ e.symm).1; omega)).trans hh, Nat.le_trans hv hgr.size⟩
  case assign =>
    intro l x W K hK
    gi_wp2
    exact hK
  case body =>
    rintro l pre x W ⟨v, hX, hO, hb, hh, hv⟩ hlt
    have hx := x.2
    have hlen := bytesOf_le pre
    have hcX := hX.cell
    have hfX := hX.frozen
    have HA := Lib.hid (CallsIn.inRound l ((callsIn_wide (n := n - 1 - 1 - 1)).2 (appendNumber_any w2.heap.size [50, 26] (by decide) v (bytesOf pre).length x.1.1 (bytesOf pre) hx.2.2 (by omega) x.1.2 hx.1 hx.2.1 W hO (by omega))))
    gi_wp2_with fail
    refine ⟨trivial, by omega, HA.out.mono ?_⟩
    rintro e W2 ⟨v', rfl, ho', hk'⟩
    obtain ⟨A', C', rfl⟩ := own_slice ho'
    have hX' : Boxed W2 (w.heap.size + 1) 24 v := (hk'.1.1.block _ hlb).trans hX
    have hcb := hX'.cell
    have hfb := hX'.frozen
    have hs' := hk'.1.1.size
    have hsn : bytesOf (pre ++ [x]) = bytesOf pre ++ be x.1.1 x.1.2 := bytesOf_snoc pre x
    have hln : (bytesOf (pre ++ [x])).length = (bytesOf pre).length + x.1.1 := by rw [hsn, List.length_append, be_length]
    gi_wp2
    refine ⟨(hk'.2.trans (KeepsOthers.setCell _ _ _)).from _, keepT_t (keepT_mono hk'.1 (by omega)) (keepT_set hX' (by omega) (by decide) _), _, hX'.set _, ?_, ?_, ?_, ?_⟩
    · rw [hln, hsn]
      exact own_setBelow ho' _ hlb _
    · exact (hb.trans (hk'.1.1.mono (by omega))).setCell (p := ⟨w.heap.size + 1, 0, none⟩) (by simp) _
    · exact (Below.heap_setCell W2 ⟨w.heap.size + 1, 0, none⟩ _ w.heap.size (by simp)).trans ((hk'.1.1.block _ (by omega)).trans hh)
    · rw [World.size_setCell]; omega
  case done =>
    rintro D ys W hD hys ⟨v, hX, hO, hb, hh, hv⟩ hK
    rw [bytesOf_all hys] at hO
    have hn10 : ((List.range 10).flatMap fun i => be (widthAt i) (numAt sv nu fl ho pr sr ds on pn i)).length = 20 := by simp [List.range_succ, be_length, widthAt]
    rw [hn10] at hO
    obtain ⟨q0, q1, q2, q3, q4, q5, q6, q7, q8⟩ := head_cells _ _ _ _ _ _ _ _ _ _ _ _ _ hh
    have hcX := hX.cell
    have hfX := hX.frozen
    simp only [Exit.inBlock, Exit.then]
    apply_assumption
    rw [wpIn_wide]
    go_wp2_with (at_builtin; refine wpList_append_row _ rfl _ _ 24 rfl w2.heap.size 5 i0 (.int .u8 0) 1 Tryd.underlying24 hi hz0 hz1 hz2 rfl v 20 _ rfl hO .u8 w.heap.size oa on oc os rfl hol (hro.below hb) hon (by unfold maxLen; omega) (by omega) (by omega) ?_; intro v6 w6 hO6 hg6; rw [← List.map_append] at hO6; obtain ⟨g6, cap6, rfl, hb6⟩ := own_form hO6 (by omega); have X6 := hX.kept hg6 (own_ne hO hlb); have hcX6 := X6.cell; have hfX6 := X6.frozen)
    have O7 := own_setBelow hO6 ⟨w.heap.size + 1, 0, none⟩ hlb (.slice (some ⟨g6, 0, none⟩) (20 + on) cap6)
    have X7 := X6.set (.slice (some ⟨g6, 0, none⟩) (20 + on) cap6)
    have L6 := hb.grown hg6 (by omega) (fun k e => by have := (hO.lt k e).1; omega)
    have L7 := L6.setCell (p := ⟨w.heap.size + 1, 0, none⟩) (by simp) (.slice (some ⟨g6, 0, none⟩) (20 + on) cap6)
    have H7 := (Below.heap_setCell w6 ⟨w.heap.size + 1, 0, none⟩ (.slice (some ⟨g6, 0, none⟩) (20 + on) cap6) w.heap.size (by simp)).trans ((hg6.block _ (by omega) (own_ne hO (by omega))).trans hh)
    have K7 := ((own_others hO hg6).trans (KeepsOthers.setCell w6 ⟨w.heap.size + 1, 0, none⟩ (.slice (some ⟨g6, 0, none⟩) (20 + on) cap6))).same D _ hK rfl
    clear q0 q1 q2 q3 q4 q5 q6 q7 q8 hcX hfX hcX6 hfX6 X6 hO6 hg6 L6 hK hh hb hO hX hv
    generalize w6.setCell ⟨w.heap.size + 1, 0, none⟩ (.slice (some ⟨g6, 0, none⟩) (20 + on) cap6) = W7 at *
    have hb8 : 20 + on ≤ 8000000 := by omega
    have R7 : Row .u8 W7.heap.size W7 (some ⟨g6, 0, none⟩) (headOf sv nu fl ho pr sr ds on pn os) := Row.of_own O7 (headOf_wf hro.1)
    have hhl : (headOf sv nu fl ho pr sr ds on pn os).length = 20 + on := by unfold headOf; rw [List.length_append, hn10, hol]
    have hck := cr_in (tot (words (headOf sv nu fl ho pr sr ds on pn os)))
    have hcX := X7.cell
    have hbX : w.heap.size + 1 < W7.heap.size := X7.lt
    have O7' : W7.ownsRow w2.heap.size 5 1 (.slice (some ⟨g6, 0, none⟩) (20 + on) cap6) (20 + on) ((headOf sv nu fl ho pr sr ds on pn os).map (Value.int .u8)) := O7
    clear O7
    have HP := Lib.hid (putOf_def sv nu fl ho pr sr ds on pn os ps)
    generalize headOf sv nu fl ho pr sr ds on pn os = hd at *
    go_region_held3 (fun w' => w'.cell? ⟨w.heap.size + 1, 0, none⟩ = some (.slice (some ⟨g6, 0, none⟩) (20 + on) cap6)) (first | with_reducible exact hcX | with_reducible exact hcX8 | with_reducible exact hcX9 | exact hcX)
      (first
        | (go_at_call 26; refine (layCheck_any g6 (20 + on) cap6 w2.heap.size hd _ (65535 - sumOf hd) (by unfold sumOf; omega) (by omega) (by omega) O8).mono ?_; rintro e w9 ⟨⟨v9, rfl⟩, rfl⟩)
        | (go_at_call 27; refine (check_any _ _ _ hd hhl hb8 W7.drew R7).mono ?_; rintro e w8 ⟨rfl, m8'⟩; have m8 : Below W7.heap.size W7 w8 := below_drew m8'; have hcX8 := (m8.cell (p := ⟨w.heap.size + 1, 0, none⟩) hbX).trans hcX; have O8 := own_below O7' m8; have hcX9 : (((w8.setCell ⟨g6, 10, none⟩ (.int .u8 ((65535 - sumOf hd) / 256))).setCell ⟨g6, 11, none⟩ (.int .u8 ((65535 - sumOf hd) % 256))).cell? ⟨w.heap.size + 1, 0, none⟩ = some (.slice (some ⟨g6, 0, none⟩) (20 + on) cap6)) := (by rw [World.cell?_setCell_other _ _ _ _ (by simp), World.cell?_setCell_other _ _ _ _ (by simp)]; exact hcX8)))
    have O9 := own_store (own_store O8 10 ((65535 - sumOf hd) / 256)) 11 ((65535 - sumOf hd) % 256)
    have L9 := ((L7.trans (m8.mono L7.size)).setCell (p := ⟨g6, 10, none⟩) (by show w.heap.size ≤ g6; omega) (.int .u8 ((65535 - sumOf hd) / 256))).setCell (p := ⟨g6, 11, none⟩) (by show w.heap.size ≤ g6; omega) (.int .u8 ((65535 - sumOf hd) % 256))
    have K9 := ((KeepsOthers.setCell w8 ⟨g6, 10, none⟩ (.int .u8 ((65535 - sumOf hd) / 256))).trans (KeepsOthers.setCell _ ⟨g6, 11, none⟩ (.int .u8 ((65535 - sumOf hd) % 256)))).same D _ ((m8.block D (Array.getElem?_eq_some_iff.1 K7).1).trans K7) rfl
    have H9 := (Below.heap_setCell _ ⟨g6, 11, none⟩ (.int .u8 ((65535 - sumOf hd) % 256)) w.heap.size (by show w.heap.size ≠ g6; omega)).trans ((Below.heap_setCell w8 ⟨g6, 10, none⟩ (.int .u8 ((65535 - sumOf hd) / 256)) w.heap.size (by show w.heap.size ≠ g6; omega)).trans ((m8.block _ (by omega)).trans H7))
    have s9 : W7.heap.size ≤ ((w8.setCell ⟨g6, 10, none⟩ (.int .u8 ((65535 - sumOf hd) / 256))).setCell ⟨g6, 11, none⟩ (.int .u8 ((65535 - sumOf hd) % 256))).heap.size := by simpa using m8.size
    have s7 : w2.heap.size ≤ W7.heap.size := by have := (O7'.lt g6 rfl).2; omega
    clear O8 m8 m8' hcX hcX8 R7 O7' L7 H7 K7 X7
    generalize (w8.setCell ⟨g6, 10, none⟩ (.int .u8 ((65535 - sumOf hd) / 256))).setCell ⟨g6, 11, none⟩ (.int .u8 ((65535 - sumOf hd) % 256)) = W9 at *
    obtain ⟨q0, q1, q2, q3, q4, q5, q6, q7, q8⟩ := head_cells _ _ _ _ _ _ _ _ _ _ _ _ _ H9
    go_wp2_with (at_builtin; refine wpList_append_row _ rfl _ _ 24 rfl w2.heap.size 5 i0 (.int .u8 0) 1 Tryd.underlying24 hi hz0 hz1 hz2 rfl _ (20 + on) _ rfl O9 .u8 w.heap.size pa pn pc ps rfl hpl (hrp.below L9) hpn (by unfold maxLen; omega) (by omega) (by omega) ?_; intro v10 w10 hO10 hg10; rw [← List.map_append] at hO10)
    simp only [Exit.jump]
    have K10 := (own_others O9 hg10).same D _ K9 rfl
    refine ⟨by simp, .inl ⟨_, _, rfl, run_takeDeferred K10, ?_⟩⟩
    refine ⟨_, results_tmp2 rfl _ _ _, ?_⟩
    have L10 := L9.grown hg10 (by omega) (fun k e => by have := (O9.lt k e).1; omega)
    have hO11 := own_base (own_abides hO10 (grownBy_putObj' w10 D (.deferred none)) (fun r e => by cases e; exact ⟨_, K10, rfl⟩)) (show w.heap.size ≤ w2.heap.size by omega)
    have hlen : (putOf sv nu fl ho pr sr ds on pn os ps).length = 20 + on + pn := by rw [HP.out]; simp [hhl, hpl]
    obtain ⟨A, C, rfl⟩ := own_slice hO10
    unfold PutRet
    rw [hlen, HP.out]
    exact ⟨A, C, rfl, hO11, L10.trans (belowK_b (w := w) (Nat.le_refl _) w10 D _ _ (by omega) K10 rfl rfl)⟩
  case stop =>
    rintro D c pre W _ _ h _
    exact h.elim

theorem ipPut_yes (sv nu fl ho pr sr ds : Int) (oa : Option Addr) (on oc : Nat) (pa : Option Addr) (pn pc : Nat) (os ps : List Int) (H : Nums sv nu fl ho pr sr ds) (hrt : rightB fl on pn = true) (w : World) (hg : 0 < w.heap.size) (hW : Wid w)
    (hro : Row .u8 w.heap.size w oa os) (hol : os.length = on) (hon : oa = none → oc = 0) (hrp : Row .u8 w.heap.size w pa ps) (hpl : ps.length = pn) (hpn : pa = none → pc = 0) :
    Calls Tryd.prog 10 #[.agg #[.int .u8 sv, .int .u16 nu, .int .u16 fl, .int .u8 ho, .int .u8 pr, .int .u32 sr, .int .u32 ds, .slice oa on oc, .slice pa pn pc]] w (PutRet (putOf sv nu fl ho pr sr ds on pn os ps) w) :=
  callsIn_wide.1 (ipPut_in sv nu fl ho pr sr ds oa on oc pa pn pc 4 (by omega) os ps H hrt w hg hW hro hol hon hrp hpl hpn)

set_option maxRecDepth 100000 in
set_option maxHeartbeats 2000000 in
theorem ipPut_no (sv nu fl ho pr sr ds : Int) (oa : Option Addr) (on oc : Nat) (pa : Option Addr) (pn pc : Nat) (hrt : rightB fl on pn = false) (ho' : on ≤ 281474976710656) (hp' : pn ≤ 281474976710656) (w : World) :
    Calls Tryd.prog 10 #[.agg #[.int .u8 sv, .int .u16 nu, .int .u16 fl, .int .u8 ho, .int .u8 pr, .int .u32 sr, .int .u32 ds, .slice oa on oc, .slice pa pn pc]] w fun e w' => e = .returned (.tuple #[.slice none 0 0, .bool false]) ∧ Below w.heap.size w w' := by
  have HR := Lib.hid hrt
  clear hrt
  go_enter Tryd.func10, Tryd.ntmps10
  go_wp2
  have L0 : Below w.heap.size w ((w.alloc (.cells #[.int .u8 sv, .int .u16 nu, .int .u16 fl, .int .u8 ho, .int .u8 pr, .int .u32 sr, .int .u32 ds, .slice oa on oc, .slice pa pn pc] 26)).alloc (.cells #[.slice none 0 0] 24)) := ((Below.refl _ w).alloc (Nat.le_refl _) _).alloc (by simp) _
  refine wp_scope_jumps 0 (fun a' w' => Below w.heap.size w w' ∧ ∃ (u0 u1 u4 u5 u6 u7 u8 u9 u10 u11 u12 u13 u14 u15 u16 u17 u18 u19 u20 u21 u22 u23 u24 u25 u26 u27 u28 u29 u30 u31 u32 : Value), a' = { tmps := #[u0, u1, .slice none 0 0, .bool false, u4, u5, u6, u7, u8, u9, u10, u11, u12, u13, u14, u15, u16, u17, u18, u19, u20, u21, u22, u23, u24, u25, u26, u27, u28, u29, u30, u31, u32], defers := [] }) (fun _ _ => 0) rfl ?first ?pass
  case first =>
    go_wp2_with (go_at_call 14; refine (ipRight_any sv nu fl ho pr sr ds oa on oc pa pn pc _ ho' hp').mono ?_; rintro e w1 ⟨rfl, m1⟩; have LL := L0.trans (m1.mono L0.size); clear m1; rw [HR.out])
    go_step3
    exact ⟨rfl, LL, _, _, _, _, _, _, _, _, _, _, _, _, _, _, _, _, _, _, _, _, _, _, _, _, _, _, _, _, _, _, _, rfl⟩
  case pass =>
    rintro a' w' ⟨LL, u0, u1, u4, u5, u6, u7, u8, u9, u10, u11, u12, u13, u14, u15, u16, u17, u18, u19, u20, u21, u22, u23, u24, u25, u26, u27, u28, u29, u30, u31, u32, rfl⟩
    go_wp2
    simp only [Exit.jump]
    go_ret2
    exact ⟨rfl, LL⟩
end Go.Proofs.YtjofijigfkkidaaDoor
