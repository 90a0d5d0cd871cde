/- Package table: its rows, one by one (the iterator); the row of a bucket. -/
import Derived.Test.YthgoopdekllanaaTbA
namespace Go.Proofs.Ythgoopdekllanaa
open Go.RowKit Go.Shelf
open SumM

attribute [local go_sem] Oper.semAt_some
attribute [local go_sem ↓] nm_ldT nm_ldA nm_stT

set_option maxRecDepth 100000 in
set_option maxHeartbeats 2000000 in
theorem rows_in (n : Nat) (T : Nat → Int) (w : World) :
    CallsIn Fence.wide n Try.prog 63 #[tabV T] w fun e w' => e = .returned (.func (.func 79) #[] #[.pointer (some ⟨w.heap.size, 0, none⟩)]) ∧ w' = w.alloc (.cells (numL 65 T).toArray 26) := by
  refine callsIn_of_wp Try.func63 rfl trivial ?_ rfl
  simp only [Try.ntmps63, List.size_toArray, List.length_cons, List.length_nil, Nat.reduceAdd, Nat.reduceSub, Array.replicate_succ, Array.replicate_zero, List.push_toArray, List.append_toArray, List.nil_append, List.cons_append]
  gi_wp2
  go_ret
  exact ⟨rfl, rfl⟩

theorem ent_of_range {w : World} {b o : Nat} (ec ep eg et : Int) (h : w.rangeAt b o (entC (ec, ep, eg, et))) : w.cell? ⟨b, o, none⟩ = some (.int .i64 ec) ∧ w.cell? ⟨b, o + 1, none⟩ = some (.int .i64 ep) ∧ w.cell? ⟨b, o + 2, none⟩ = some (.int .i64 eg) ∧ w.cell? ⟨b, o + 3, none⟩ = some (.int .i64 et) :=
  ⟨h 0 _ rfl, h 1 _ rfl, h 2 _ rfl, h 3 _ rfl⟩
/-- What is handed out: a bucket, its row. -/
def encR (T : Nat → Int) (i : Nat) : Array Value := #[.int .i64 (i : Nat), entV (rowT T i)]
/-- Which one comes behind those that came. -/
def RowOk (pre : List Nat) (i : Nat) : Prop := pre = List.range i ∧ i < 16

set_option maxRecDepth 100000 in
set_option maxHeartbeats 4000000 in
theorem rowIter_in (n : Nat) (hn : 1 ≤ n) (B : Nat) (T : Nat → Int) (l : Nat) (J Jx : List Nat → World → Prop) (W : World) (hb : NB B 26 65 T W)
    (hN : ∀ pre V o, J pre V → J pre (V.alloc o))
    (hY : ∀ pre x V, J pre V → RowOk pre x → YieldAt Fence.wide (n - 1) Try.prog l (encR T x) V fun e V' => (e = .returned (.bool true) ∧ J (pre ++ [x]) V' ∧ True) ∨ (e = .returned (.bool false) ∧ Jx (pre ++ [x]) V'))
    (h0 : J [] W) :
    CallsIn Fence.wide n Try.prog 79 #[.func (.yield l) #[] #[], .pointer (some ⟨B, 0, none⟩)] W fun e W' => (∃ v, e = .returned v) ∧
      ((∃ xs, xs = List.range 16 ∧ J xs W') ∨ (∃ pre, True ∧ Jx pre W')) := by
  refine callsIn_of_wp Try.func79 rfl trivial ?_ rfl
  simp only [Try.ntmps79, List.size_toArray, List.length_cons, List.length_nil, Nat.reduceAdd, Nat.reduceSub, Array.replicate_succ, Array.replicate_zero, List.push_toArray, List.append_toArray, List.nil_append, List.cons_append]
  have q := ld_rows hb
  have HN := Lib.hid hN
  have HY := Lib.hid hY
  clear hN hY hb
  gi_wp2
  gi_loopw [7] (fun i wr => ∃ k : Nat, k ≤ 16 ∧ i = .int .i64 (k : Nat) ∧ J (List.range k) wr) (fun i _ => 16 - (intOf i).toNat)
  case atStart => exact ⟨0, by omega, rfl, h0⟩
  case round =>
    obtain ⟨k, hk, rfl, hJ⟩ := hrel
    have HJ := Lib.hid hJ
    clear hJ
    by_cases hlt : k < 16
    · have hx := idx_row T wr k hlt
      have hk1 : (k : Int) < 16 := by omega
      have hY2 := HY.out (List.range k) k (wr.alloc (.cells #[.int .i64 (rowT T k).1, .int .i64 (rowT T k).2.1, .int .i64 (rowT T k).2.2.1, .int .i64 (rowT T k).2.2.2] 23)) (HN.out _ _ _ HJ.out) ⟨rfl, hlt⟩
      unfold encR at hY2
      generalize rowT T k = u at *
      obtain ⟨u0, u1, u2, u3⟩ := u
      obtain ⟨fn, tmps, assign, body, hy, hr⟩ := hY2
      have y := (show (Instr.yield l #[.int .i64 (k : Nat), .agg #[.int .i64 u0, .int .i64 u1, .int .i64 u2, .int .i64 u3]]).run Try.prog _ = .ok (.round l fn tmps assign body) _ from hy)
      have HR := Lib.hid hr
      clear hy hr
      have hd := heap_alloc_new wr (.cells #[.int .i64 0, .int .i64 0, .int .i64 0, .int .i64 0] 23)
      obtain ⟨z0, z1, z2, z3⟩ := ent_cells _ _ _ _ hd
      have f0 := ent_frozen hd 0
      have f1 := ent_frozen hd 1
      have f2 := ent_frozen hd 2
      have f3 := ent_frozen hd 3
      have hX := heap_alloc_new wr (.cells #[.int .i64 u0, .int .i64 u1, .int .i64 u2, .int .i64 u3] 23)
      obtain ⟨x0, x1, x2, x3⟩ := ent_cells _ _ _ _ hX
      clear hd hX q
      gi_wp2
      refine HR.out.mono ?_
      rintro e3 W3 (⟨rfl, J3, _⟩ | ⟨rfl, Jx3⟩)
      · have HJ3 := Lib.hid J3
        clear J3 z0 z1 z2 z3 f0 f1 f2 f3 x0 x1 x2 x3 y hx
        gi_wp2
        go_roundw
        case rel => exact ⟨k + 1, by omega, by go_num, by rw [List.range_succ]; exact HJ3.out⟩
        case measure => simp [intOf]; omega
      · have HJ3 := Lib.hid Jx3
        clear Jx3 z0 z1 z2 z3 f0 f1 f2 f3 x0 x1 x2 x3 y hx
        gi_wp2
        refine bodyPost_ret (results_none rfl _ _ _) rfl ?_
        exact ⟨⟨_, rfl⟩, .inr ⟨_, trivial, HJ3.out⟩⟩
    · obtain rfl : k = 16 := by omega
      gi_wp2
      go_end0
      exact ⟨⟨_, rfl⟩, .inl ⟨_, rfl, HJ.out⟩⟩

theorem rows_ok (n : Nat) (hn : 1 ≤ n) (B : Nat) (T : Nat → Int) (w : World) (hb : NB B 26 65 T w) :
    SeqOkG Fence.wide n Try.prog 79 #[.pointer (some ⟨B, 0, none⟩)] (encR T) (fun pre x _ => RowOk pre x) (fun _ _ => True) (fun xs => xs = List.range 16) (fun _ => True) w :=
  fun l J Jx W m hN hY h0 => rowIter_in n hn B T l J Jx W (nb_below hb m) (fun _ V _ h => hN _ _ _ h ((Below.refl _ V).alloc (Nat.le_refl _) _)) hY h0
theorem rows_ok' (n : Nat) (hn : 1 ≤ n) (B : Nat) (T : Nat → Int) (w : World) (hb : NB B 26 65 T w) :
    SeqOk Fence.wide n Try.prog 79 #[.pointer (some ⟨B, 0, none⟩)] (encR T) (fun pre x _ => RowOk pre x) (fun _ _ => True) (fun xs => xs = List.range 16) (fun _ => True) w :=
  fun l J Jx W m hN hY h0 => rowIter_in n hn B T l J Jx W (nb_below hb m) hN hY h0

theorem results_agg_tmp {fn : Func} {p u : Tmp} {ty : TypeId} (h : fn.results = #[.cell p ty, .tmp u]) (tmps : Array Value) (w : World) (g : Nat) (t : TypeId) (cs : Array Value) (fr : Nat × Nat) (d : TypeDesc)
    (hp : tmps.getD p undef = .pointer (some ⟨g, 0, none⟩)) (hg : w.heap[g]? = some (.cells cs t fr)) (hu : Try.prog.underlying ty = some d) (hd : d.isRow = true) (hi : (Try.prog.info? ty).map (·.size) = some cs.size) :
    (results fn tmps).run Try.prog w = .ok (.tuple #[.agg cs, tmps.getD u undef]) w := by
  rw [results_cell_tmp h, hp]
  simp only [asAddr, Sem.run_pure, Result.andThen_ok]
  rw [run_loadVar_row w g t ty cs fr d hg hu (by cases d <;> first | rfl | exact hd) hi]
  rfl

/-- A bucket's row, and whether there is one. -/
def rwT (T : Nat → Int) (b : Int) : Ent × Bool := if 0 ≤ b ∧ b < 16 then (rowT T b.toNat, true) else (ent0, false)

set_option maxRecDepth 100000 in
set_option maxHeartbeats 2000000 in
theorem row_any (T : Nat → Int) (b : Int) (w : World) : Calls Try.prog 59 #[tabV T, .int .i64 b] w fun e w' => e = .returned (.tuple #[entV (rwT T b).1, .bool (rwT T b).2]) ∧ Below w.heap.size w w' := by
  have bT := heap_alloc_new w (.cells (numL 65 T).toArray 26)
  have bE := heap_alloc_new (w.alloc (.cells (numL 65 T).toArray 26)) (.cells #[.int .i64 0, .int .i64 0, .int .i64 0, .int .i64 0] 23)
  have bT := (Below.heap_alloc _ (.cells #[.int .i64 0, .int .i64 0, .int .i64 0, .int .i64 0] 23) _ (by simp)).trans bT
  have L0 := ((Below.refl w.heap.size w).alloc (Nat.le_refl _) (.cells (numL 65 T).toArray 26)).alloc (by simp) (.cells #[.int .i64 0, .int .i64 0, .int .i64 0, .int .i64 0] 23)
  rw [World.size_alloc] at bE
  go_enter Try.func59, Try.ntmps59
  go_upto_region 1 with (fail)
  generalize (w.alloc (.cells (numL 65 T).toArray 26)).alloc (.cells #[.int .i64 0, .int .i64 0, .int .i64 0, .int .i64 0] 23) = W0 at *
  obtain ⟨z0, z1, z2, z3⟩ := ent_cells _ _ _ _ bE
  have f0 := ent_frozen bE 0
  have f1 := ent_frozen bE 1
  have f2 := ent_frozen bE 2
  have f3 := ent_frozen bE 3
  by_cases h1 : 0 ≤ b
  · by_cases h2 : b < 16
    · have HR := Lib.hid (show rwT T b = (rowT T b.toNat, true) from if_pos ⟨h1, h2⟩)
      obtain ⟨k, rfl⟩ : ∃ k : Nat, b = (k : Int) := ⟨b.toNat, by omega⟩
      have hk : k < 16 := by omega
      have q := rng_row bT k hk
      simp only [Int.toNat_natCast] at HR
      generalize rowT T k = u at *
      obtain ⟨u0, u1, u2, u3⟩ := u
      obtain ⟨q0, q1, q2, q3⟩ := ent_of_range _ _ _ _ q
      have HS := Lib.hid (full_setCells bE [.int .i64 u0, .int .i64 u1, .int .i64 u2, .int .i64 u3] rfl)
      have HB := Lib.hid (below_setCells (w.heap.size + 1) (by omega) [.int .i64 u0, .int .i64 u1, .int .i64 u2, .int .i64 u3] 0 w _ L0)
      clear h1 bT bE L0 q
      go_wp2
      exact bodyPost_ret (results_agg_tmp rfl _ _ (w.heap.size + 1) _ _ (0, 0) _ rfl HS.out Try.undE rfl Try.sizE) rfl ⟨by rw [HR.out]; rfl, HB.out⟩
    · have HR := Lib.hid (show rwT T b = (ent0, false) from if_neg (by omega))
      have HS := Lib.hid (full_setCells bE [.int .i64 0, .int .i64 0, .int .i64 0, .int .i64 0] rfl)
      have HB := Lib.hid (below_setCells (w.heap.size + 1) (by omega) [.int .i64 0, .int .i64 0, .int .i64 0, .int .i64 0] 0 w _ L0)
      have hb : decide (16 ≤ b) = true := by simpa using h2
      have hb' : decide (b < 0) = false := by simpa using h1
      clear bT bE L0 h1 h2
      go_wp2
      exact bodyPost_ret (results_agg_tmp rfl _ _ (w.heap.size + 1) _ _ (0, 0) _ rfl HS.out Try.undE rfl Try.sizE) rfl ⟨by rw [HR.out]; rfl, HB.out⟩
  · have HR := Lib.hid (show rwT T b = (ent0, false) from if_neg (by omega))
    have HS := Lib.hid (full_setCells bE [.int .i64 0, .int .i64 0, .int .i64 0, .int .i64 0] rfl)
    have HB := Lib.hid (below_setCells (w.heap.size + 1) (by omega) [.int .i64 0, .int .i64 0, .int .i64 0, .int .i64 0] 0 w _ L0)
    have hb' : decide (b < 0) = true := by simpa using h1
    clear bT bE L0 h1
    go_wp2
    exact bodyPost_ret (results_agg_tmp rfl _ _ (w.heap.size + 1) _ _ (0, 0) _ rfl HS.out Try.undE rfl Try.sizE) rfl ⟨by rw [HR.out]; rfl, HB.out⟩

set_option maxRecDepth 100000 in
set_option maxHeartbeats 2000000 in
theorem r10Row_any (T : Nat → Int) (b : Int) (w : World) : Calls Try.prog 60 #[tabV T, .int .i64 b] w fun e w' => e = .returned (.tuple #[entV (rwT T b).1, .bool (rwT T b).2]) ∧ Below w.heap.size w w' := by
  have bT := heap_alloc_new w (.cells (numL 65 T).toArray 26)
  have bE := heap_alloc_new (w.alloc (.cells (numL 65 T).toArray 26)) (.cells #[.int .i64 0, .int .i64 0, .int .i64 0, .int .i64 0] 23)
  have bT := (Below.heap_alloc _ (.cells #[.int .i64 0, .int .i64 0, .int .i64 0, .int .i64 0] 23) _ (by simp)).trans bT
  have L0 := ((Below.refl w.heap.size w).alloc (Nat.le_refl _) (.cells (numL 65 T).toArray 26)).alloc (by simp) (.cells #[.int .i64 0, .int .i64 0, .int .i64 0, .int .i64 0] 23)
  rw [World.size_alloc] at bE
  go_enter Try.func60, Try.ntmps60
  go_upto_region 1 with (fail)
  generalize (w.alloc (.cells (numL 65 T).toArray 26)).alloc (.cells #[.int .i64 0, .int .i64 0, .int .i64 0, .int .i64 0] 23) = W0 at *
  obtain ⟨z0, z1, z2, z3⟩ := ent_cells _ _ _ _ bE
  have f0 := ent_frozen bE 0
  have f1 := ent_frozen bE 1
  have f2 := ent_frozen bE 2
  have f3 := ent_frozen bE 3
  by_cases h1 : 0 ≤ b
  · by_cases h2 : b < 16
    · have HR := Lib.hid (show rwT T b = (rowT T b.toNat, true) from if_pos ⟨h1, h2⟩)
      obtain ⟨k, rfl⟩ : ∃ k : Nat, b = (k : Int) := ⟨b.toNat, by omega⟩
      have hk : k < 16 := by omega
      have q := rng_row bT k hk
      simp only [Int.toNat_natCast] at HR
      generalize rowT T k = u at *
      obtain ⟨u0, u1, u2, u3⟩ := u
      obtain ⟨q0, q1, q2, q3⟩ := ent_of_range _ _ _ _ q
      have HS := Lib.hid (full_setCells bE [.int .i64 u0, .int .i64 u1, .int .i64 u2, .int .i64 u3] rfl)
      have HB := Lib.hid (below_setCells (w.heap.size + 1) (by omega) [.int .i64 u0, .int .i64 u1, .int .i64 u2, .int .i64 u3] 0 w _ L0)
      clear h1 bT bE L0 q
      go_wp2
      exact bodyPost_ret (results_agg_tmp rfl _ _ (w.heap.size + 1) _ _ (0, 0) _ rfl HS.out Try.undE rfl Try.sizE) rfl ⟨by rw [HR.out]; rfl, HB.out⟩
    · have HR := Lib.hid (show rwT T b = (ent0, false) from if_neg (by omega))
      have HS := Lib.hid (full_setCells bE [.int .i64 0, .int .i64 0, .int .i64 0, .int .i64 0] rfl)
      have HB := Lib.hid (below_setCells (w.heap.size + 1) (by omega) [.int .i64 0, .int .i64 0, .int .i64 0, .int .i64 0] 0 w _ L0)
      have hb : decide (16 ≤ b) = true := by simpa using h2
      have hb' : decide (b < 0) = false := by simpa using h1
      clear bT bE L0 h1 h2
      go_wp2
      exact bodyPost_ret (results_agg_tmp rfl _ _ (w.heap.size + 1) _ _ (0, 0) _ rfl HS.out Try.undE rfl Try.sizE) rfl ⟨by rw [HR.out]; rfl, HB.out⟩
  · have HR := Lib.hid (show rwT T b = (ent0, false) from if_neg (by omega))
    have HS := Lib.hid (full_setCells bE [.int .i64 0, .int .i64 0, .int .i64 0, .int .i64 0] rfl)
    have HB := Lib.hid (below_setCells (w.heap.size + 1) (by omega) [.int .i64 0, .int .i64 0, .int .i64 0, .int .i64 0] 0 w _ L0)
    have hb' : decide (b < 0) = true := by simpa using h1
    clear bT bE L0 h1
    go_wp2
    exact bodyPost_ret (results_agg_tmp rfl _ _ (w.heap.size + 1) _ _ (0, 0) _ rfl HS.out Try.undE rfl Try.sizE) rfl ⟨by rw [HR.out]; rfl, HB.out⟩

end Go.Proofs.Ythgoopdekllanaa
