/- Package option: Put. -/
import Derived.Test.YthenbpnlmpeafaaDoorOpT
namespace Go.Proofs.YthenbpnlmpeafaaDoor
open Go.RowKit Go.Shelf
open SumM

attribute [local go_sem] Oper.semAt_some

/-- A number's byte; the bytes of the first k numbers, and i more of the next one's. -/
def pbyte (v : Int) (n i : Nat) : Int := (v / (2 : Int) ^ (8 * (n - 1 - i))) % 256
def prow (nv : Nat → Int) (k i : Nat) : List Int := (List.range i).map (pbyte (nv k) (nw k))
def pbytes (nv : Nat → Int) : Nat → List Int
  | 0 => [158, 16]
  | k + 1 => pbytes nv k ++ prow nv k (nw k)
theorem prow_succ (nv : Nat → Int) (k i : Nat) : prow nv k (i + 1) = prow nv k i ++ [pbyte (nv k) (nw k) i] := by simp [prow, List.range_succ]
theorem prow_length (nv : Nat → Int) (k i : Nat) : (prow nv k i).length = i := by simp [prow]
theorem pbytes_length (nv : Nat → Int) : ∀ k : Nat, k ≤ 6 → (pbytes nv k).length = 2 + noff k
  | 0, _ => rfl
  | k + 1, h => by
    have := noff_succ k (by omega)
    rw [pbytes, List.length_append, pbytes_length nv k (by omega), prow_length, this.1]
    omega
theorem pbytes_all (kd bu cu pv ge ti : Int) (H : ONums kd bu cu pv ge ti) : pbytes (nums kd bu cu pv ge ti) 6 = optB kd bu cu pv ge ti := by
  have h1 := H.h1
  have h2 := H.h2
  have hr4 : List.range 4 = [0, 1, 2, 3] := rfl
  have hr6 : List.range 6 = [0, 1, 2, 3, 4, 5] := rfl
  have hr1 : List.range 1 = [0] := rfl
  simp only [pbytes, prow, nw, hr1, hr4, hr6, List.map_cons, List.map_nil, pbyte, nums, optB, List.cons_append, List.nil_append]
  simp
  omega

theorem ownsRow_of_block {W W' : World} {base : Nat} {e : TypeId} {size g k cap n : Nat} {xs : List Value} (h : W.ownsRow base e size (.slice (some ⟨g, 0, none⟩) k cap) n xs) (hk : W'.heap[g]? = W.heap[g]?) : W'.ownsRow base e size (.slice (some ⟨g, 0, none⟩) k cap) n xs := by
  refine ⟨h.1, ?_⟩
  rcases h.2 with h' | ⟨g', cap', cur, e1, e2, hg, r⟩
  · exact .inl h'
  · injection e1 with e3
    injection e3 with e3
    injection e3 with e3
    subst e3
    exact .inr ⟨g, cap', cur, by simp_all, e2, hk.trans hg, r⟩
theorem ownsRow_lt {W : World} {base : Nat} {e : TypeId} {size g k cap n : Nat} {xs : List Value} (h : W.ownsRow base e size (.slice (some ⟨g, 0, none⟩) k cap) n xs) : g < W.heap.size := by
  rcases h.2 with ⟨h', _⟩ | ⟨g', cap', cur, e1, e2, hg, r⟩
  · cases h'
  · injection e1 with e3
    injection e3 with e3
    injection e3 with e3
    subst e3
    exact (Array.getElem?_eq_some_iff.1 hg).1
/-- What lies in memory while the bytes come: the numbers, the slice's box, the slice's own array. -/
structure PuBase (nv : Nat → Int) (w : World) (nb g : Nat) (zs : List Int) (W : World) : Prop where
  lo : Below w.heap.size w W
  nu : W.heap[nb]? = some (.cells #[.int .i64 (nv 0), .int .i64 (nv 1), .int .i64 (nv 2), .int .i64 (nv 3), .int .i64 (nv 4), .int .i64 (nv 5)] 98 (0, 0))
  bx : W.heap[w.heap.size + 1]? = some (.cells #[.slice (some ⟨g, 0, none⟩) zs.length 16] 27 (0, 0))
  own : W.ownsRow w.heap.size 5 1 (.slice (some ⟨g, 0, none⟩) zs.length 16) zs.length (zs.map (Value.int .u8))
theorem PuBase.keep {nv : Nat → Int} {w W W' : World} {nb g : Nat} {zs : List Int} (h : PuBase nv w nb g zs W) (L : Below w.heap.size W W') (k1 : W'.heap[nb]? = W.heap[nb]?) (k2 : W'.heap[w.heap.size + 1]? = W.heap[w.heap.size + 1]?) (k3 : W'.heap[g]? = W.heap[g]?) : PuBase nv w nb g zs W' :=
  ⟨h.lo.trans L, k1.trans h.nu, k2.trans h.bx, ownsRow_of_block h.own k3⟩
theorem PuBase.lt {nv : Nat → Int} {w W : World} {nb g : Nat} {zs : List Int} (h : PuBase nv w nb g zs W) : nb < W.heap.size ∧ w.heap.size + 1 < W.heap.size ∧ g < W.heap.size :=
  ⟨(Array.getElem?_eq_some_iff.1 h.nu).1, (Array.getElem?_eq_some_iff.1 h.bx).1, ownsRow_lt h.own⟩
theorem PuBase.new {nv : Nat → Int} {w W : World} {nb g : Nat} {zs : List Int} (h : PuBase nv w nb g zs W) (o : Obj) : PuBase nv w nb g zs (W.alloc o) :=
  h.keep ((Below.refl _ _).alloc h.lo.size o) (Below.heap_alloc _ _ _ h.lt.1) (Below.heap_alloc _ _ _ h.lt.2.1) (Below.heap_alloc _ _ _ h.lt.2.2)
theorem PuBase.turn {nv : Nat → Int} {w W : World} {nb g : Nat} {zs : List Int} (h : PuBase nv w nb g zs W) {l : Nat} (o' : Obj) (h1 : nb < l) (h2 : w.heap.size + 1 < l) (h3 : g < l) : PuBase nv w nb g zs (W.putObj l o') :=
  h.keep ⟨rfl, rfl, rfl, by simp [World.putObj], fun k hk => World.putObj_heap_other (by omega)⟩ (World.putObj_heap_other (by omega)) (World.putObj_heap_other (by omega)) (World.putObj_heap_other (by omega))
theorem PuBase.drewN {nv : Nat → Int} {w W : World} {nb g : Nat} {zs : List Int} (h : PuBase nv w nb g zs W) (m : Nat) : PuBase nv w nb g zs (W.drewN m) :=
  h.keep ⟨rfl, rfl, rfl, Nat.le_refl _, fun _ _ => rfl⟩ rfl rfl rfl
def PuInv (nv : Nat → Int) (w : World) (nb g : Nat) (pre : List Nat) (W : World) : Prop := PuBase nv w nb g (pbytes nv pre.length) W
theorem puInv_abide (nv : Nat → Int) (w : World) (nb g B : Nat) (h1 : nb < B) (h2 : w.heap.size + 1 < B) (h3 : g < B) : Abide3 B (PuInv nv w nb g) where
  new := fun _ _ o h => PuBase.new h o
  turn := fun _ _ _ _ o' h hl _ _ => PuBase.turn h o' (by omega) (by omega) (by omega)
/-- An append that fits, as one operation of a region that draws its order, inside a fence. -/
theorem stepIn_append_fits {F : Fence} {n : Nat} {P : Program} (w : World) {ops : Array Oper} {o : Oper} {a : Act} {K : Act → World → Prop} {Q : Exit → Act → World → Prop} {E : Prop} (hw : Region.wanted o (yielded ops a.tmps) = true) (s x : Operand) (t : TypeId)
    (ho : o.op = .call { callee := .builtin .append, args := #[s, x], argTypes := #[t, t] })
    (base : Nat) (e : TypeId) (i : TypeInfo) (size : Nat) (ht : P.underlying t = some (.slice e)) (hi : P.info? e = some i) (hsize : i.size = size)
    (g k cap : Nat) (xs : List Value) (hs : a.eval s = .slice (some ⟨g, 0, none⟩) k cap) (hown : w.ownsRow base e size (.slice (some ⟨g, 0, none⟩) k cap) k xs)
    (ad : Addr) (m c : Nat) (news : List Value) (hx : a.eval x = .slice (some ad) m c) (hl : news.length = m * size) (hnews : ∀ j u, news[j]? = some u → w.cell? (ad.add j) = some u) (h1 : ∀ u ∈ news, u.oneCell' = true)
    (b1 : k + m ≤ cap)
    (h : ∀ w', w'.ownsRow base e size (.slice (some ⟨g, 0, none⟩) (k + m) cap) (k + m) (xs ++ news) → w.grownBy w' (some g) → K (a.put o.dst (.slice (some ⟨g, 0, none⟩) (k + m) cap)) w') :
    if Region.wanted o (yielded ops a.tmps) = true then Oper.wpIn F n P o a w K Q else E := by
  rw [if_pos hw]
  obtain ⟨w', hrun, r1, r2⟩ := run_append_fits (P := P) w base t o.type e i size ht hi hsize g k cap xs hown ad m c news hl hnews h1 b1
  refine ⟨by simp [Oper.about, ho, resolve, Target.leads, Sem.run_pure], ?_⟩
  rw [Oper.semAt_plain F _ _ (by rw [ho]; intro c hc; cases hc)]
  simp [execOp, ho, resolve, invoke, builtin, hs, hx, hrun, Result.andThen]
  exact h w' r1 r2
theorem pu_box {w2 w3 w4 : World} {k g : Nat} {o o' : Obj} (h1 : w2.heap[k]? = some o) (G3 : w2.grownBy w3 none) (G4 : (w3.alloc o').grownBy w4 (some g)) (hg : k ≠ g) : w4.heap[k]? = some o := by
  have h2 := (Array.getElem?_eq_some_iff.1 h1).1
  have h3 := G3.size
  rw [G4.block _ (by simp; omega) (by simpa using hg), Below.heap_alloc _ _ _ (by omega), G3.block _ h2 (by simp)]
  exact h1
theorem cell_two_new (w : World) (x y : Value) (t : TypeId) : ∀ j u, [x, y][j]? = some u → (w.alloc (.cells #[x, y] t)).cell? ((⟨w.heap.size, 0, none⟩ : Addr).add j) = some u := by
  intro j u hj
  match j, hj with
  | 0, hj => rw [show (⟨w.heap.size, 0, none⟩ : Addr).add 0 = ⟨w.heap.size, 0, none⟩ from rfl, cell_of_row _ _ _ _ _ _ (World.alloc_heap_new w _)]; simpa using hj
  | 1, hj => rw [show (⟨w.heap.size, 0, none⟩ : Addr).add 1 = ⟨w.heap.size, 1, none⟩ from rfl, cell_of_row _ _ _ _ _ _ (World.alloc_heap_new w _)]; simpa using hj
theorem below_grown {B : Nat} {w w' : World} {row : Option Nat} (G : w.grownBy w' row) (hB : B ≤ w.heap.size) (h : ∀ j, row = some j → B ≤ j) : Below B w w' :=
  ⟨G.os, G.tape, G.output, G.size, fun k hk => G.block k (by omega) (fun e => by have := h k e.symm; omega)⟩
theorem PuBase.grow {nv : Nat → Int} {w V w' : World} {nb g : Nat} {zs : List Int} {y : Int} {o : Obj} (h : PuBase nv w nb g zs V) (G : (V.alloc o).grownBy w' (some g)) (h1 : nb ≠ g) (h2 : w.heap.size + 1 ≠ g) (h3 : nb ≠ w.heap.size + 1) (h4 : w.heap.size ≤ g) {m : Nat} (hm : zs.length = m)
    (ho : w'.ownsRow w.heap.size 5 1 (.slice (some ⟨g, 0, none⟩) (m + 1) 16) (m + 1) (zs.map (Value.int .u8) ++ [.int .u8 y])) :
    PuBase nv w nb g (zs ++ [y]) (w'.setCell ⟨w.heap.size + 1, 0, none⟩ (.slice (some ⟨g, 0, none⟩) (m + 1) 16)) := by
  subst hm
  have hlt := h.lt
  have hs := h.lo.size
  have hb : w'.heap[w.heap.size + 1]? = some (.cells #[.slice (some ⟨g, 0, none⟩) zs.length 16] 27 (0, 0)) := (G.block _ (by simp; omega) (by simpa using h2)).trans ((Below.heap_alloc _ _ _ (by omega)).trans h.bx)
  refine ⟨?_, ?_, ?_, ?_⟩
  · exact h.lo.trans ((((Below.refl _ _).alloc hs _).trans (below_grown G (by simp; omega) (by intro j h; injection h with h; omega))).setCell (p := ⟨w.heap.size + 1, 0, none⟩) (by simp) _)
  · exact (Below.heap_setCell w' ⟨w.heap.size + 1, 0, none⟩ _ nb h3).trans ((G.block _ (by simp; omega) (by simpa using h1)).trans ((Below.heap_alloc _ _ _ (by omega)).trans h.nu))
  · have := heap_setCell_same w' (w.heap.size + 1) 0 _ _ (.slice (some ⟨g, 0, none⟩) (zs.length + 1) 16) hb
    simpa using this
  · refine ownsRow_of_block ?_ (Below.heap_setCell w' ⟨w.heap.size + 1, 0, none⟩ _ _ (by simp; omega))
    simpa using ho
theorem KeepL.grow {nI n0 g : Nat} {V w' : World} {o : Obj} (G : (V.alloc o).grownBy w' (some g)) (h1 : nI ≠ g) (h2 : g < n0) : KeepL nI n0 V w' :=
  ⟨by have := G.size; simp at this; omega, fun k o' hk h _ => by
    have hlt := (Array.getElem?_eq_some_iff.1 h).1
    exact (G.block _ (by simp; omega) (by simp; omega)).trans ((Below.heap_alloc _ _ _ hlt).trans h)⟩

set_option maxRecDepth 100000 in
set_option maxHeartbeats 8000000 in
theorem oPut_in (n : Nat) (hn : 6 ≤ n) (kd bu cu pv ge ti : Int) (H : ONums kd bu cu pv ge ti) (w : World) :
    CallsIn Fence.wide n Tryd.prog 44 #[.agg #[.int .u8 kd, .int .u8 bu, .int .i64 cu, .int .i64 pv, .int .i64 ge, .int .i64 ti]] w fun e w' => (optOk kd bu cu pv ge ti = true ∧ ∃ A c, e = .returned (.tuple #[.slice A 16 c, .int .i64 0]) ∧ 16 ≤ c ∧ c ≤ 9223372036854775807 ∧ Row .u8 w'.heap.size w' A (optB kd bu cu pv ge ti) ∧ Below w.heap.size w w') ∨ (optOk kd bu cu pv ge ti = false ∧ e = .returned (.tuple #[.slice none 0 0, .int .i64 2]) ∧ Below w.heap.size w w') := by
  have h1n : 1 ≤ n := by omega
  obtain ⟨i0, hi, hz0, hz1, hz2⟩ := info_parts Tryd.infoU8
  refine callsIn_of_wp_marks Tryd.func44 rfl trivial ?_ rfl
  simp only [Tryd.ntmps44, List.size_toArray, List.length_cons, List.length_nil, Nat.reduceAdd, Nat.reduceSub, Array.replicate_succ, Array.replicate_zero, List.push_toArray, List.append_toArray, List.nil_append, List.cons_append]
  have b0 := blkN (heap_alloc_new w (.cells #[.int .u8 kd, .int .u8 bu, .int .i64 cu, .int .i64 pv, .int .i64 ge, .int .i64 ti] 26)) (.cells #[.slice none 0 0] 27)
  have b1 := newN (w.alloc (.cells #[.int .u8 kd, .int .u8 bu, .int .i64 cu, .int .i64 pv, .int .i64 ge, .int .i64 ti] 26)) (.cells #[.slice none 0 0] 27) (w.heap.size + 1) (by simp)
  have L0 := Lib.hid (((Below.refl w.heap.size w).alloc (Nat.le_refl _) (.cells #[.int .u8 kd, .int .u8 bu, .int .i64 cu, .int .i64 pv, .int .i64 ge, .int .i64 ti] 26)).alloc (by simp) (.cells #[.slice none 0 0] 27))
  gi_wp2_with fail
  rw [wpIn_wide]
  refine wp_scope_jumps 0 (fun a' w' => ∃ N, a' = { tmps := #[.agg #[.int .u8 kd, .int .u8 bu, .int .i64 cu, .int .i64 pv, .int .i64 ge, .int .i64 ti], .pointer (some ⟨w.heap.size, 0, none⟩), .slice none 0 0, .int .i64 0, .pointer (some ⟨w.heap.size + 1, 0, none⟩), .pointer (some ⟨N, 0, none⟩), undef, undef, undef, .agg #[.int .u8 kd, .int .u8 bu, .int .i64 cu, .int .i64 pv, .int .i64 ge, .int .i64 ti], .agg #[.int .i64 kd, .int .i64 bu, .int .i64 cu, .int .i64 pv, .int .i64 ge, .int .i64 ti], .agg #[.int .u8 kd, .int .u8 bu, .int .i64 cu, .int .i64 pv, .int .i64 ge, .int .i64 ti], .bool false, .bool true, undef, undef, undef, undef, undef, undef, undef, undef, undef, undef, undef, undef, undef, undef, undef, undef, undef, undef, undef, undef, undef, undef, undef, undef, undef, undef, undef], defers := [] } ∧ Below w.heap.size w w' ∧ optOk kd bu cu pv ge ti = false) (fun _ _ => 0) rfl ?first ?pass
  case pass =>
    rintro a' w' ⟨N, rfl, hb, hno⟩
    have HB := Lib.hid hb
    have HN := Lib.hid hno
    clear hb hno b0 b1
    go_wp2
    simp only [Exit.jump]
    exact ⟨_, results_tmp2 rfl _ _ _, .inr ⟨HN.out, rfl, HB.out⟩⟩
  case first =>
    rw [← wpIn_wide (n := n)]
    gi_wp2_with fail
    generalize (w.alloc (.cells #[.int .u8 kd, .int .u8 bu, .int .i64 cu, .int .i64 pv, .int .i64 ge, .int .i64 ti] 26)).alloc (.cells #[.slice none 0 0] 27) = W0 at *
    obtain ⟨q0, q1, q2, q3, q4, q5⟩ := o_cells _ _ _ _ _ _ b0
    have B0 := Lib.hid b0
    have B1 := Lib.hid b1
    clear b0 b1
    gi_wp2_with fail
    refine ⟨trivial, (callsIn_wide.2 (numbersOf_any kd bu cu pv ge ti H.h1 H.h2 W0)).mono ?_⟩
    rintro e w1 ⟨rfl, m1⟩
    have B2 := Lib.hid ((m1.block _ (Array.getElem?_eq_some_iff.1 B0.out).1).trans B0.out)
    have B3 := Lib.hid ((m1.block _ (Array.getElem?_eq_some_iff.1 B1.out).1).trans B1.out)
    have HL := Lib.hid (L0.out.trans (m1.mono L0.out.size))
    have hsz : w.heap.size + 2 ≤ w1.heap.size := by have := m1.size; have h := (Array.getElem?_eq_some_iff.1 B1.out).1; omega
    have HZ := Lib.hid hsz
    have B4 := blkN B2.out (.cells #[.int .i64 kd, .int .i64 bu, .int .i64 cu, .int .i64 pv, .int .i64 ge, .int .i64 ti] 98)
    obtain ⟨q0, q1, q2, q3, q4, q5⟩ := o_cells _ _ _ _ _ _ B4
    clear m1 hsz B0 B1 L0 B4
    gi_wp2_with fail
    have B5 := blkN B3.out (.cells #[.int .i64 kd, .int .i64 bu, .int .i64 cu, .int .i64 pv, .int .i64 ge, .int .i64 ti] 98)
    have N0 := heap_alloc_new w1 (.cells #[.int .i64 kd, .int .i64 bu, .int .i64 cu, .int .i64 pv, .int .i64 ge, .int .i64 ti] 98)
    have HL2 := HL.out.alloc HL.out.size (.cells #[.int .i64 kd, .int .i64 bu, .int .i64 cu, .int .i64 pv, .int .i64 ge, .int .i64 ti] 98)
    clear q0 q1 q2 q3 q4 q5
    generalize w1.alloc (.cells #[.int .i64 kd, .int .i64 bu, .int .i64 cu, .int .i64 pv, .int .i64 ge, .int .i64 ti] 98) = W1 at *
    refine ⟨trivial, (callsIn_wide.2 (oRight_two kd bu cu pv ge ti H.h1 H.h2 W1)).mono ?_⟩
    rintro e w2 ⟨rfl, m2⟩
    have B6 := Lib.hid ((m2.block _ (Array.getElem?_eq_some_iff.1 B5).1).trans B5)
    have N6 := Lib.hid ((m2.block _ (Array.getElem?_eq_some_iff.1 N0).1).trans N0)
    have HL3 := Lib.hid (HL2.trans (m2.mono HL2.size))
    have hnb := (Array.getElem?_eq_some_iff.1 N0).1
    have hsz2 := m2.size
    generalize w1.heap.size = nb at *
    have HZ2 := Lib.hid (show w.heap.size + 2 ≤ nb ∧ nb < w2.heap.size from ⟨HZ.out, by omega⟩)
    clear B5 N0 HL2 m2 hnb hsz2 HZ B2 B3 HL
    by_cases hok : optOk kd bu cu pv ge ti = true
    · have HOK := Lib.hid hok
      rw [hok]
      clear hok
      have fb := o_frozen B6.out 0
      gi_wp2_with (first
        | (gi_at_make; refine wpListIn_make_own _ rfl _ _ _ rfl w.heap.size 5 i0 (.int .u8 0) 1 Tryd.underlying27 hi hz0 hz1 .i64 .i64 16 16 rfl rfl rfl (by rw [hz2]; omega) (by unfold maxLen; omega) (by have := HZ2.out; omega) ?_; intro w3 hown3 hgrow3; (have hsz3 := Lib.hid hgrow3.size); (have G3 := Lib.hid hgrow3); clear hgrow3)
        | (gi_at_builtin; refine wpListIn_append_fits _ rfl _ _ 27 rfl w.heap.size 5 i0 1 Tryd.underlying27 hi hz1 w2.heap.size 0 16 [] rfl (hown3.alloc _) ⟨w3.heap.size, 0, none⟩ 2 2 [.int .u8 158, .int .u8 16] rfl rfl (cell_two_new _ _ _ _) (by simp [Value.oneCell']) (by omega) ?_; intro w4 hown4 hgrow4; (have G4 := Lib.hid hgrow4); (have B7 := pu_box B6.out G3.out G4.out (by have := HZ2.out; omega)); (have f7 := o_frozen B7 0); (have c7 := ptr_cell B7); (have HB7 := Lib.hid B7); clear B7 hgrow4))
      have P5 : PuBase (nums kd bu cu pv ge ti) w nb w2.heap.size [158, 16] (w4.setCell ⟨w.heap.size + 1, 0, none⟩ (.slice (some ⟨w2.heap.size, 0, none⟩) 2 16)) := by
        have hz2 := HZ2.out
        have hz3 := hsz3.out
        refine ⟨?_, ?_, ?_, ?_⟩
        · exact HL3.out.trans (((below_grown G3.out (by omega) (by simp)).trans (((Below.refl _ _).alloc (by omega) _).trans (below_grown G4.out (by simp; omega) (by intro j h; injection h with h; omega)))).setCell (p := ⟨w.heap.size + 1, 0, none⟩) (by simp) _)
        · exact (Below.heap_setCell w4 ⟨w.heap.size + 1, 0, none⟩ _ nb (by simp; omega)).trans (pu_box N6.out G3.out G4.out (by omega))
        · have := heap_setCell_same w4 (w.heap.size + 1) 0 _ _ (.slice (some ⟨w2.heap.size, 0, none⟩) 2 16) HB7.out
          simpa using this
        · exact ownsRow_of_block (by simpa using hown4) (Below.heap_setCell w4 ⟨w.heap.size + 1, 0, none⟩ _ _ (by simp; omega))
      have hlt := P5.lt
      have HP5 := Lib.hid P5
      clear P5 c7 f7 hown3 hown4 fb q0 q1 q2 q3 q4 q5
      generalize w4.setCell ⟨w.heap.size + 1, 0, none⟩ (.slice (some ⟨w2.heap.size, 0, none⟩) 2 16) = W5 at *
      have HZ5 := Lib.hid hlt
      clear hlt HB7 G3 G4 hsz3
      generalize w2.heap.size = g at *
      refine ⟨trivial, (withLimits_in (n - 1) nb W5).mono ?_⟩
      rintro e w6 ⟨rfl, rfl⟩
      have HX0 := Lib.hid (heap_alloc_new W5 (.cells #[.pointer (some ⟨nb, 0, none⟩)] 111))
      have P6 := Lib.hid (HP5.out.new (.cells #[.pointer (some ⟨nb, 0, none⟩)] 111))
      have hV : (W5.alloc (.cells #[.pointer (some ⟨nb, 0, none⟩)] 111)).heap.size = W5.heap.size + 1 := by simp
      have HV := Lib.hid hV
      clear HP5 hV
      gi_wp2
      generalize W5.alloc (.cells #[.pointer (some ⟨nb, 0, none⟩)] 111) = V at *
      generalize W5.heap.size = nI at *
      refine range_okD rfl h1n (gf := 74) (lb := #[.pointer (some ⟨nI, 0, none⟩)]) rfl trivial (enters_of Tryd.func74 (by kernel_rfl) rfl)
        (lims_ok (n - 1) (by omega) nI nb V.heap.size V (Nat.le_refl _) HX0.out) (fun _ _ _ _ _ _ h _ _ _ => h) (fun h k => h.trans k) (fun W l o o' _ hl hc _ => KeepL.putObj _ _ W o' hl hc) (fun _ => rfl)
        (PuInv (nums kd bu cu pv ge ti) w nb g) (fun _ _ _ => False) (puInv_abide _ w nb g V.heap.size (by have := HV.out; have := HZ5.out; omega) (by have := HV.out; have := HZ5.out; omega) (by have := HV.out; have := HZ5.out; omega)) (fun _ => ⟨fun _ _ _ h => h, fun _ _ _ _ _ h _ _ _ => h⟩) (fun _ W h => PuBase.drewN h 1) P6.out
        (fun x => .cells (limOf x) 105) (fun W x => KeepL.alloc _ _ W _) (fun _ _ _ h => h)
        (fun x b => { tmps := #[.agg #[.int .u8 kd, .int .u8 bu, .int .i64 cu, .int .i64 pv, .int .i64 ge, .int .i64 ti], .pointer (some ⟨w.heap.size, 0, none⟩), .slice none 0 0, .int .i64 0, .pointer (some ⟨w.heap.size + 1, 0, none⟩), .pointer (some ⟨nb, 0, none⟩), .pointer (some ⟨nb, x, none⟩), .pointer (some ⟨b, 0, none⟩), undef, .agg #[.int .u8 kd, .int .u8 bu, .int .i64 cu, .int .i64 pv, .int .i64 ge, .int .i64 ti], .agg #[.int .i64 kd, .int .i64 bu, .int .i64 cu, .int .i64 pv, .int .i64 ge, .int .i64 ti], .agg #[.int .u8 kd, .int .u8 bu, .int .i64 cu, .int .i64 pv, .int .i64 ge, .int .i64 ti], .bool true, .bool false, .slice (some ⟨g, 0, none⟩) 0 16, .slice (some ⟨w3.heap.size, 0, none⟩) 2 2, .slice (some ⟨g, 0, none⟩) 2 16, .func (.func 74) #[] #[.pointer (some ⟨nI, 0, none⟩)], .pointer (some ⟨nb, x, none⟩), .agg (limOf x), undef, undef, undef, undef, undef, undef, undef, undef, undef, undef, undef, undef, undef, undef, undef, undef, undef, undef, undef, undef, undef], defers := [] }) ?assign ?body ?done ?stop
      case assign =>
        intro l x W K hK
        simp only [onumAt, limOf] at hK ⊢
        gi_wp2
        exact hK
      case stop =>
        rintro D c pre W hD _ hf hK
        exact hf.elim
      case done =>
        rintro D ys W hD rfl hb hK
        have HB := Lib.hid (show PuBase (nums kd bu cu pv ge ti) w nb g (pbytes (nums kd bu cu pv ge ti) 6) W from hb)
        have HK := Lib.hid hK
        have HD := Lib.hid hD
        have cb := ptr_cell HB.out.bx
        rw [pbytes_length _ 6 (by omega)] at cb
        clear hb hK hD
        simp only [Exit.inBlock, Exit.then]
        apply_assumption
        rw [wpIn_wide]
        go_wp2
        simp only [Exit.jump]
        refine ⟨by simp, .inl ⟨_, _, rfl, run_takeDeferred HK.out, ?_⟩⟩
        refine ⟨_, results_tmp2 rfl _ _ _, .inl ⟨HOK.out, some ⟨g, 0, none⟩, 16, rfl, by omega, by omega, ?_, ?_⟩⟩
        · have ho := HB.out.own
          rw [pbytes_all kd bu cu pv ge ti H, show (optB kd bu cu pv ge ti).length = 16 from rfl] at ho
          exact Row.of_own (ownsRow_of_block ho (World.putObj_heap_other (by have := HD.out; have := HV.out; have := HZ5.out; omega))) (in_wf8 (optB_in H.h1 H.h2))
        · exact HB.out.lo.trans (belowK_b (w := w) (Nat.le_refl _) _ D _ _ (by have := HD.out; have := HV.out; have := HZ5.out; omega) HK.out rfl rfl)
      case body =>
        rintro l pre x W b hb ⟨hx, hx6⟩ hb1 hb2 hbx
        subst hx
        have hP := (show PuBase (nums kd bu cu pv ge ti) w nb g (pbytes (nums kd bu cu pv ge ti) pre.length) W from hb)
        have HB := Lib.hid hP
        have HX := Lib.hid (And.intro hx6 (And.intro hb1 (And.intro hb2 hbx)))
        obtain ⟨ca, cb, cc⟩ := lim_cells hbx
        rw [nwd_nw] at cc
        have HO := Lib.hid (noff_succ _ hx6)
        clear hb hP hb1 hb2 hbx hx6 HX0 P6
        generalize hpl : pre.length = x at *
        have HPL := Lib.hid hpl
        clear hpl
        gi_wp2_with fail
        gi_loopw [22] (fun i wr => ∃ k : Nat, k ≤ nw x ∧ i = .int .i64 (k : Nat) ∧ PuBase (nums kd bu cu pv ge ti) w nb g (pbytes (nums kd bu cu pv ge ti) x ++ prow (nums kd bu cu pv ge ti) x k) wr ∧ KeepL nI V.heap.size W wr ∧ KeepsFrom V.heap.size W wr)
          (fun i _ => nw x - (intOf i).toNat)
        case atStart =>
          exact ⟨0, by omega, rfl, by simpa [prow] using HB.out, KeepL.refl _ _ _, KeepsFrom.refl _ _⟩
        case round =>
          obtain ⟨k, hk, rfl, hN, hkl, hkf⟩ := hrel
          by_cases hlt : k < nw x
          · have q3 : decide ((k : Int) < (nw x : Int)) = true := decide_eq_true (by omega)
            gi_wp2_with fail
            have HN := Lib.hid hN
            have HK := Lib.hid (And.intro hkl (And.intro hkf hlt))
            have hbx2 := hkl.2 b _ (.inr HX.out.2.1) HX.out.2.2.2 rfl
            obtain ⟨_, _, cw⟩ := lim_cells hbx2
            rw [nwd_nw] at cw
            have cv := nu_cell hN.nu x HX.out.1
            have cs := ptr_cell hN.bx
            have hm : ((pbytes (nums kd bu cu pv ge ti) x ++ prow (nums kd bu cu pv ge ti) x k)).length + 1 ≤ 16 := by
              rw [List.length_append, pbytes_length _ x (by have := HX.out.1; omega), prow_length]
              have := HO.out
              omega
            have HM := Lib.hid hm
            have HFIN := Lib.hid (prow_succ (nums kd bu cu pv ge ti) x k)
            have hy : pbyte (nums kd bu cu pv ge ti x) (nw x) k = IntKind.u8.wrap (nums kd bu cu pv ge ti x / 2 ^ (min (8 * ((nw x : Int) - 1 - (k : Int))).toNat 64)) := by
              have := HO.out
              unfold pbyte
              rw [show min (8 * ((nw x : Int) - 1 - (k : Int))).toNat 64 = 8 * (nw x - 1 - k) by omega]
              rfl
            have HY := Lib.hid hy
            clear ca cb hbx2 hN hkl hkf hy
            have e31 : IntKind.i64.wrap ((nw x : Int) - 1) = (nw x : Int) - 1 := IntWalk.i64_in _ (by have := HO.out; omega)
            have e33 : IntKind.i64.wrap ((nw x : Int) - 1 - (k : Int)) = (nw x : Int) - 1 - (k : Int) := IntWalk.i64_in _ (by have := HO.out; omega)
            have e34 : IntKind.i64.wrap (8 * ((nw x : Int) - 1 - (k : Int))) = 8 * ((nw x : Int) - 1 - (k : Int)) := IntWalk.i64_in _ (by have := HO.out; omega)
            have e35 : 0 ≤ 8 * ((nw x : Int) - 1 - (k : Int)) := by omega
            generalize hv : nums kd bu cu pv ge ti x = v at *
            generalize hwd : ((nw x : Nat) : Int) = wd at *
            generalize hki : ((k : Nat) : Int) = ki at *
            clear hm hlt
            obtain ⟨a1, ha1⟩ : ∃ a, a = wd - 1 := ⟨_, rfl⟩
            obtain ⟨a2, ha2⟩ : ∃ a, a = wd - 1 - ki := ⟨_, rfl⟩
            obtain ⟨a3, ha3⟩ : ∃ a, a = 8 * (wd - 1 - ki) := ⟨_, rfl⟩
            have h31 : IntKind.i64.wrap (wd - 1) = a1 := e31.trans ha1.symm
            have h33 : IntKind.i64.wrap (a1 - ki) = a2 := by rw [ha1]; exact e33.trans ha2.symm
            have h34 : IntKind.i64.wrap (8 * a2) = a3 := by rw [ha2]; exact e34.trans ha3.symm
            have h0 : 0 ≤ a3 := by rw [ha3]; exact e35
            rw [← ha3] at HY
            obtain ⟨qv, hq⟩ : ∃ q, q = v / 2 ^ min a3.toNat 64 := ⟨_, rfl⟩
            rw [← hq] at HY
            obtain ⟨y, h36⟩ : ∃ y, IntKind.u8.wrap qv = y := ⟨_, rfl⟩
            rw [h36] at HY
            have h35 := hq.symm
            clear ha1 ha2 ha3 e31 e33 e34 e35 hq q3 cc
            have HNK := Lib.hid (And.intro hwd hki)
            have HV0 := Lib.hid hv
            clear hwd hki hv
            generalize hls : (pbytes (nums kd bu cu pv ge ti) x ++ prow (nums kd bu cu pv ge ti) x k) = zs at *
            have HLS := Lib.hid hls
            clear hls
            generalize hml : zs.length = m at *
            have HML := Lib.hid hml
            clear hml
            refine region_any_inRound l rfl (by kernel_rfl) (by kernel_rfl) ?_
            try (change wpAnyIn _ _ _ _ _ _ _ _ _ (World.drew _))
            replace cs : wr.drew.cell? ⟨w.heap.size + 1, 0, none⟩ = some (.slice (some ⟨g, 0, none⟩) m 16) := cs
            replace cv : wr.drew.cell? ⟨nb, x, none⟩ = some (.int .i64 v) := cv
            replace cw : wr.drew.cell? ⟨b, 2, none⟩ = some (.int .i64 wd) := cw
            generalize hV0 : wr.drew = V0 at *
            have HV0D : PuBase (nums kd bu cu pv ge ti) w nb g zs V0 := by rw [← hV0]; exact HN.out.drewN 1
            have HVD := Lib.hid hV0
            clear hV0
            have cs2 : (V0.alloc (.cells #[.int .u8 y] 5)).cell? ⟨w.heap.size + 1, 0, none⟩ = some (.slice (some ⟨g, 0, none⟩) m 16) := by
              have := HV0D.bx
              rw [HML.out] at this
              exact ptr_cell (blkN this _)
            apply shareW (F := fun V' => V0.alloc (.cells #[.int .u8 y] 5) = V')
            · intro h1
              refine takeV (i := 1) (d := some 26) rfl rfl rfl (by kernel_rfl) (by kernel_rfl) (by kernel_rfl) (fun _ _ _ h => h) (by kernel_rfl) (by intro w; go_simp; try with_reducible rfl) (fun _ => rfl) ?_
              refine takeV (i := 2) (d := some 27) rfl rfl rfl (by kernel_rfl) (by kernel_rfl) (by kernel_rfl) (fun _ _ _ h => h) (by kernel_rfl) (by intro w; go_simp; try with_reducible rfl) (fun _ => rfl) ?_
              refine takeV (i := 4) (d := some 29) rfl rfl rfl (by kernel_rfl) (by kernel_rfl) (by kernel_rfl) (fun _ _ _ h => h) (by kernel_rfl) (by intro w; go_simp; try with_reducible rfl) (fun _ => rfl) ?_
              refine takeV (i := 7) (d := some 32) rfl rfl rfl (by kernel_rfl) (by kernel_rfl) (by kernel_rfl) (fun _ _ _ h => h) (by kernel_rfl) (by intro w; go_simp; try with_reducible rfl) (fun _ => rfl) ?_
              refine wpAnyIn_ready (rs := [0, 3, 5]) (by kernel_rfl) (by simp) ?_
              refine AllReadyIn.cons rfl (fun K hK => ?_) (AllReadyIn.cons rfl (fun K hK => ?_) (AllReadyIn.cons rfl (fun K hK => ?_) AllReadyIn.nil))
              · go_simp
                refine hK _ _ ?_
                clear hK K
                refine wpAnyIn_ready (rs := [3, 5]) (by kernel_rfl) (by simp) ?_
                refine AllReadyIn.cons rfl (fun K hK => ?_) (AllReadyIn.cons rfl (fun K hK => ?_) AllReadyIn.nil)
                · go_simp
                  refine hK _ _ ?_
                  clear hK K
                  refine wpAnyIn_ready (rs := [5]) (by kernel_rfl) (by simp) ?_
                  refine AllReadyIn.cons rfl (fun K hK => ?_) AllReadyIn.nil
                  go_simp
                  refine hK _ _ ?_
                  clear hK K
                  refine takeV (i := 6) (d := some 31) (v := .int .i64 a1) rfl rfl rfl (by kernel_rfl) (by kernel_rfl) (by kernel_rfl) (fun _ _ _ h => h) (by kernel_rfl) (by intro w; go_simp; try rw [h31]) (fun _ => rfl) ?_
                  refine takeV (i := 8) (d := some 33) (v := .int .i64 a2) rfl rfl rfl (by kernel_rfl) (by kernel_rfl) (by kernel_rfl) (fun _ _ _ h => h) (by kernel_rfl) (by intro w; go_simp; try rw [h33]) (fun _ => rfl) ?_
                  refine takeV (i := 9) (d := some 34) (v := .int .i64 a3) rfl rfl rfl (by kernel_rfl) (by kernel_rfl) (by kernel_rfl) (fun _ _ _ h => h) (by kernel_rfl) (by intro w; go_simp; try rw [h34]) (fun _ => rfl) ?_
                  refine takeV (i := 10) (d := some 35) (v := .int .i64 qv) rfl rfl rfl (by kernel_rfl) (by kernel_rfl) (by kernel_rfl) (fun _ _ _ h => h) (by kernel_rfl) (by intro w; go_simp; try rw [h35]) (fun _ => rfl) ?_
                  refine takeV (i := 11) (d := some 36) (v := .int .u8 y) rfl rfl rfl (by kernel_rfl) (by kernel_rfl) (by kernel_rfl) (fun _ _ _ h => h) (by kernel_rfl) (by intro w; go_simp; try rw [h36]) (fun _ => rfl) ?_
                  refine wpAnyIn_ready (rs := [12]) (by kernel_rfl) (by simp) ?_
                  refine AllReadyIn.cons rfl (fun K hK => ?_) AllReadyIn.nil
                  go_simp
                  refine hK _ _ ?_
                  clear hK K
                  exact h1 _ rfl
                · go_simp
                  refine hK _ _ ?_
                  clear hK K
                  refine takeV (i := 6) (d := some 31) (v := .int .i64 a1) rfl rfl rfl (by kernel_rfl) (by kernel_rfl) (by kernel_rfl) (fun _ _ _ h => h) (by kernel_rfl) (by intro w; go_simp; try rw [h31]) (fun _ => rfl) ?_
                  refine takeV (i := 8) (d := some 33) (v := .int .i64 a2) rfl rfl rfl (by kernel_rfl) (by kernel_rfl) (by kernel_rfl) (fun _ _ _ h => h) (by kernel_rfl) (by intro w; go_simp; try rw [h33]) (fun _ => rfl) ?_
                  refine takeV (i := 9) (d := some 34) (v := .int .i64 a3) rfl rfl rfl (by kernel_rfl) (by kernel_rfl) (by kernel_rfl) (fun _ _ _ h => h) (by kernel_rfl) (by intro w; go_simp; try rw [h34]) (fun _ => rfl) ?_
                  refine wpAnyIn_ready (rs := [3]) (by kernel_rfl) (by simp) ?_
                  refine AllReadyIn.cons rfl (fun K hK => ?_) AllReadyIn.nil
                  go_simp
                  refine hK _ _ ?_
                  clear hK K
                  refine takeV (i := 10) (d := some 35) (v := .int .i64 qv) rfl rfl rfl (by kernel_rfl) (by kernel_rfl) (by kernel_rfl) (fun _ _ _ h => h) (by kernel_rfl) (by intro w; go_simp; try rw [h35]) (fun _ => rfl) ?_
                  refine takeV (i := 11) (d := some 36) (v := .int .u8 y) rfl rfl rfl (by kernel_rfl) (by kernel_rfl) (by kernel_rfl) (fun _ _ _ h => h) (by kernel_rfl) (by intro w; go_simp; try rw [h36]) (fun _ => rfl) ?_
                  refine wpAnyIn_ready (rs := [12]) (by kernel_rfl) (by simp) ?_
                  refine AllReadyIn.cons rfl (fun K hK => ?_) AllReadyIn.nil
                  go_simp
                  refine hK _ _ ?_
                  clear hK K
                  exact h1 _ rfl
              · go_simp
                refine hK _ _ ?_
                clear hK K
                refine wpAnyIn_ready (rs := [0, 5]) (by kernel_rfl) (by simp) ?_
                refine AllReadyIn.cons rfl (fun K hK => ?_) (AllReadyIn.cons rfl (fun K hK => ?_) AllReadyIn.nil)
                · go_simp
                  refine hK _ _ ?_
                  clear hK K
                  refine wpAnyIn_ready (rs := [5]) (by kernel_rfl) (by simp) ?_
                  refine AllReadyIn.cons rfl (fun K hK => ?_) AllReadyIn.nil
                  go_simp
                  refine hK _ _ ?_
                  clear hK K
                  refine takeV (i := 6) (d := some 31) (v := .int .i64 a1) rfl rfl rfl (by kernel_rfl) (by kernel_rfl) (by kernel_rfl) (fun _ _ _ h => h) (by kernel_rfl) (by intro w; go_simp; try rw [h31]) (fun _ => rfl) ?_
                  refine takeV (i := 8) (d := some 33) (v := .int .i64 a2) rfl rfl rfl (by kernel_rfl) (by kernel_rfl) (by kernel_rfl) (fun _ _ _ h => h) (by kernel_rfl) (by intro w; go_simp; try rw [h33]) (fun _ => rfl) ?_
                  refine takeV (i := 9) (d := some 34) (v := .int .i64 a3) rfl rfl rfl (by kernel_rfl) (by kernel_rfl) (by kernel_rfl) (fun _ _ _ h => h) (by kernel_rfl) (by intro w; go_simp; try rw [h34]) (fun _ => rfl) ?_
                  refine takeV (i := 10) (d := some 35) (v := .int .i64 qv) rfl rfl rfl (by kernel_rfl) (by kernel_rfl) (by kernel_rfl) (fun _ _ _ h => h) (by kernel_rfl) (by intro w; go_simp; try rw [h35]) (fun _ => rfl) ?_
                  refine takeV (i := 11) (d := some 36) (v := .int .u8 y) rfl rfl rfl (by kernel_rfl) (by kernel_rfl) (by kernel_rfl) (fun _ _ _ h => h) (by kernel_rfl) (by intro w; go_simp; try rw [h36]) (fun _ => rfl) ?_
                  refine wpAnyIn_ready (rs := [12]) (by kernel_rfl) (by simp) ?_
                  refine AllReadyIn.cons rfl (fun K hK => ?_) AllReadyIn.nil
                  go_simp
                  refine hK _ _ ?_
                  clear hK K
                  exact h1 _ rfl
                · go_simp
                  refine hK _ _ ?_
                  clear hK K
                  refine takeV (i := 6) (d := some 31) (v := .int .i64 a1) rfl rfl rfl (by kernel_rfl) (by kernel_rfl) (by kernel_rfl) (fun _ _ _ h => h) (by kernel_rfl) (by intro w; go_simp; try rw [h31]) (fun _ => rfl) ?_
                  refine takeV (i := 8) (d := some 33) (v := .int .i64 a2) rfl rfl rfl (by kernel_rfl) (by kernel_rfl) (by kernel_rfl) (fun _ _ _ h => h) (by kernel_rfl) (by intro w; go_simp; try rw [h33]) (fun _ => rfl) ?_
                  refine takeV (i := 9) (d := some 34) (v := .int .i64 a3) rfl rfl rfl (by kernel_rfl) (by kernel_rfl) (by kernel_rfl) (fun _ _ _ h => h) (by kernel_rfl) (by intro w; go_simp; try rw [h34]) (fun _ => rfl) ?_
                  refine takeV (i := 10) (d := some 35) (v := .int .i64 qv) rfl rfl rfl (by kernel_rfl) (by kernel_rfl) (by kernel_rfl) (fun _ _ _ h => h) (by kernel_rfl) (by intro w; go_simp; try rw [h35]) (fun _ => rfl) ?_
                  refine takeV (i := 11) (d := some 36) (v := .int .u8 y) rfl rfl rfl (by kernel_rfl) (by kernel_rfl) (by kernel_rfl) (fun _ _ _ h => h) (by kernel_rfl) (by intro w; go_simp; try rw [h36]) (fun _ => rfl) ?_
                  refine wpAnyIn_ready (rs := [0, 12]) (by kernel_rfl) (by simp) ?_
                  refine AllReadyIn.cons rfl (fun K hK => ?_) (AllReadyIn.cons rfl (fun K hK => ?_) AllReadyIn.nil)
                  · go_simp
                    refine hK _ _ ?_
                    clear hK K
                    refine wpAnyIn_ready (rs := [12]) (by kernel_rfl) (by simp) ?_
                    refine AllReadyIn.cons rfl (fun K hK => ?_) AllReadyIn.nil
                    go_simp
                    refine hK _ _ ?_
                    clear hK K
                    exact h1 _ rfl
                  · go_simp
                    refine hK _ _ ?_
                    clear hK K
                    refine wpAnyIn_ready (rs := [0]) (by kernel_rfl) (by simp) ?_
                    refine AllReadyIn.cons rfl (fun K hK => ?_) AllReadyIn.nil
                    go_simp
                    refine hK _ _ ?_
                    clear hK K
                    exact h1 _ rfl
              · go_simp
                refine hK _ _ ?_
                clear hK K
                refine takeV (i := 6) (d := some 31) (v := .int .i64 a1) rfl rfl rfl (by kernel_rfl) (by kernel_rfl) (by kernel_rfl) (fun _ _ _ h => h) (by kernel_rfl) (by intro w; go_simp; try rw [h31]) (fun _ => rfl) ?_
                refine takeV (i := 8) (d := some 33) (v := .int .i64 a2) rfl rfl rfl (by kernel_rfl) (by kernel_rfl) (by kernel_rfl) (fun _ _ _ h => h) (by kernel_rfl) (by intro w; go_simp; try rw [h33]) (fun _ => rfl) ?_
                refine takeV (i := 9) (d := some 34) (v := .int .i64 a3) rfl rfl rfl (by kernel_rfl) (by kernel_rfl) (by kernel_rfl) (fun _ _ _ h => h) (by kernel_rfl) (by intro w; go_simp; try rw [h34]) (fun _ => rfl) ?_
                refine wpAnyIn_ready (rs := [0, 3]) (by kernel_rfl) (by simp) ?_
                refine AllReadyIn.cons rfl (fun K hK => ?_) (AllReadyIn.cons rfl (fun K hK => ?_) AllReadyIn.nil)
                · go_simp
                  refine hK _ _ ?_
                  clear hK K
                  refine wpAnyIn_ready (rs := [3]) (by kernel_rfl) (by simp) ?_
                  refine AllReadyIn.cons rfl (fun K hK => ?_) AllReadyIn.nil
                  go_simp
                  refine hK _ _ ?_
                  clear hK K
                  refine takeV (i := 10) (d := some 35) (v := .int .i64 qv) rfl rfl rfl (by kernel_rfl) (by kernel_rfl) (by kernel_rfl) (fun _ _ _ h => h) (by kernel_rfl) (by intro w; go_simp; try rw [h35]) (fun _ => rfl) ?_
                  refine takeV (i := 11) (d := some 36) (v := .int .u8 y) rfl rfl rfl (by kernel_rfl) (by kernel_rfl) (by kernel_rfl) (fun _ _ _ h => h) (by kernel_rfl) (by intro w; go_simp; try rw [h36]) (fun _ => rfl) ?_
                  refine wpAnyIn_ready (rs := [12]) (by kernel_rfl) (by simp) ?_
                  refine AllReadyIn.cons rfl (fun K hK => ?_) AllReadyIn.nil
                  go_simp
                  refine hK _ _ ?_
                  clear hK K
                  exact h1 _ rfl
                · go_simp
                  refine hK _ _ ?_
                  clear hK K
                  refine takeV (i := 10) (d := some 35) (v := .int .i64 qv) rfl rfl rfl (by kernel_rfl) (by kernel_rfl) (by kernel_rfl) (fun _ _ _ h => h) (by kernel_rfl) (by intro w; go_simp; try rw [h35]) (fun _ => rfl) ?_
                  refine takeV (i := 11) (d := some 36) (v := .int .u8 y) rfl rfl rfl (by kernel_rfl) (by kernel_rfl) (by kernel_rfl) (fun _ _ _ h => h) (by kernel_rfl) (by intro w; go_simp; try rw [h36]) (fun _ => rfl) ?_
                  refine wpAnyIn_ready (rs := [0, 12]) (by kernel_rfl) (by simp) ?_
                  refine AllReadyIn.cons rfl (fun K hK => ?_) (AllReadyIn.cons rfl (fun K hK => ?_) AllReadyIn.nil)
                  · go_simp
                    refine hK _ _ ?_
                    clear hK K
                    refine wpAnyIn_ready (rs := [12]) (by kernel_rfl) (by simp) ?_
                    refine AllReadyIn.cons rfl (fun K hK => ?_) AllReadyIn.nil
                    go_simp
                    refine hK _ _ ?_
                    clear hK K
                    exact h1 _ rfl
                  · go_simp
                    refine hK _ _ ?_
                    clear hK K
                    refine wpAnyIn_ready (rs := [0]) (by kernel_rfl) (by simp) ?_
                    refine AllReadyIn.cons rfl (fun K hK => ?_) AllReadyIn.nil
                    go_simp
                    refine hK _ _ ?_
                    clear hK K
                    exact h1 _ rfl

            intro V' e1
            subst e1
            have hown := HV0D.own
            rw [HML.out] at hown
            have HVP := Lib.hid HV0D
            clear cs cv cw cs2 HV0D
            refine wpAnyIn_ready (rs := [13]) (by kernel_rfl) (by simp) ?_
            refine AllReadyIn.cons rfl (fun K hK => ?_) AllReadyIn.nil
            refine stepIn_append_fits _ (by kernel_rfl) _ _ 27 rfl w.heap.size 5 i0 1 Tryd.underlying27 hi hz1 g m 16 (zs.map (Value.int .u8)) rfl (hown.alloc _) ⟨V0.heap.size, 0, none⟩ 1 1 [_] rfl rfl (cell_one_new _ _ _) (by simp [Value.oneCell']) HM.out (fun w' hown' hgrow => hK _ _ ?_)
            clear hK K
            have P8 := HVP.out.grow (y := y) hgrow (by have := HZ2.out; omega) (by have := HZ2.out; omega) (by have := HZ2.out; omega) (by have := HZ2.out; omega) HML.out hown'
            have hb8 : w'.heap[w.heap.size + 1]? = some (.cells #[.slice (some ⟨g, 0, none⟩) zs.length 16] 27 (0, 0)) := (hgrow.block _ (by simp; have := HVP.out.lt; omega) (by have := HZ2.out; simp; omega)).trans ((Below.heap_alloc _ _ _ HVP.out.lt.2.1).trans HVP.out.bx)
            have c8 := ptr_cell hb8
            have f8 := o_frozen hb8 0
            have HP8 := Lib.hid P8
            have HG := Lib.hid hgrow
            clear P8 hb8 hown hown' hgrow
            refine wpAnyIn_ready (rs := [14]) (by kernel_rfl) (by simp) ?_
            refine AllReadyIn.cons rfl (fun K hK => ?_) AllReadyIn.nil
            go_simp
            refine hK _ _ ?_
            clear hK K
            refine wpAnyIn_done (by kernel_rfl) ?_ _
            try simp only [Exit.then]
            clear h31 h33 h34 h35 h36 h0 c8 f8
            obtain ⟨rfl, rfl⟩ := HNK.out
            have hk6 : k < 6 := by have := HK.out.2.2; have := HO.out; omega
            clear HNK
            apply_assumption
            gi_wp2_with fail
            go_roundw
            case rel =>
              have hg : g < V.heap.size := by have := HV.out; have := HZ5.out; omega
              refine ⟨k + 1, by have := HK.out.2.2; omega, by go_num, ?_, (HK.out.1.trans ((by rw [← HVD.out]; exact KeepL.drewN nI V.heap.size wr 1 : KeepL nI V.heap.size wr V0).trans (KeepL.grow HG.out (by have := HZ5.out; omega) hg))).trans (KeepL.setCell _ _ _ _ _ (by have := HZ5.out; simp; omega) (by have := HZ5.out; have := HV.out; simp; omega)), (HK.out.2.1.trans ((by rw [← HVD.out]; exact ⟨Nat.le_refl _, fun _ _ _ h _ => h⟩ : KeepsFrom V.heap.size wr V0).trans (((KeepsOthers.alloc _ _).from _).trans (KeepsFrom.of_grownBy HG.out (by intro j h; injection h with h; omega))))).trans ((KeepsOthers.setCell _ _ _).from _)⟩
              rw [HFIN.out, HY.out, ← List.append_assoc, HLS.out]
              exact HP8.out
            case measure => simp [intOf]; have := HK.out.2.2; omega
          · obtain rfl : k = nw x := by omega
            have q3 : decide ((nw x : Int) < (nw x : Int)) = false := decide_eq_false (by omega)
            gi_wp2_with fail
            refine ⟨hkf, hkl, ?_⟩
            show PuBase _ _ _ _ (pbytes _ (pre ++ [x]).length) wr
            rw [List.length_append, HPL.out, List.length_singleton]
            exact hN
    · simp only [Bool.not_eq_true] at hok
      have HOK := Lib.hid hok
      rw [hok]
      clear hok
      gi_wp2_with fail
      refine wpIn_goto ?_
      simp only [Exit.then]
      exact ⟨rfl, nb, rfl, HL3.out, HOK.out⟩

theorem oPut_yes (kd bu cu pv ge ti : Int) (H : ONums kd bu cu pv ge ti) (hok : optOk kd bu cu pv ge ti = true) (w : World) :
    Calls Tryd.prog 44 #[.agg #[.int .u8 kd, .int .u8 bu, .int .i64 cu, .int .i64 pv, .int .i64 ge, .int .i64 ti]] w fun e w' => ∃ A c, e = .returned (.tuple #[.slice A 16 c, .int .i64 0]) ∧ 16 ≤ c ∧ c ≤ 9223372036854775807 ∧ Row .u8 w'.heap.size w' A (optB kd bu cu pv ge ti) ∧ Below w.heap.size w w' := by
  refine (callsIn_wide.1 (oPut_in 6 (by omega) kd bu cu pv ge ti H w)).mono ?_
  rintro e w' (⟨_, h⟩ | ⟨hno, _⟩)
  · exact h
  · rw [hok] at hno
    cases hno

theorem oPut_no (kd bu cu pv ge ti : Int) (H : ONums kd bu cu pv ge ti) (hok : optOk kd bu cu pv ge ti = false) (w : World) :
    Calls Tryd.prog 44 #[.agg #[.int .u8 kd, .int .u8 bu, .int .i64 cu, .int .i64 pv, .int .i64 ge, .int .i64 ti]] w fun e w' => ∃ A c, e = .returned (.tuple #[.slice A 0 c, .int .i64 2]) ∧ Below w.heap.size w w' := by
  refine (callsIn_wide.1 (oPut_in 6 (by omega) kd bu cu pv ge ti H w)).mono ?_
  rintro e w' (⟨hno, _⟩ | ⟨_, h⟩)
  · rw [hok] at hno
    cases hno
  · exact ⟨none, 0, h⟩
end Go.Proofs.YthenbpnlmpeafaaDoor
