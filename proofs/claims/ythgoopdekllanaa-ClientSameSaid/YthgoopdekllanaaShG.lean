/- A table's snapshot: package sheet's Of; the rows, one by one. -/
import Derived.Test.YthgoopdekllanaaShF
import Derived.Test.YthgoopdekllanaaTbC
import Derived.Deep.RegionHeldLaw
namespace Go.Proofs.Ythgoopdekllanaa
open Go.RowKit Go.Shelf
open SumM

attribute [local go_sem] Oper.semAt_some
attribute [local go_sem ↓] nm_ldT nm_ldA nm_stT

theorem nb_lt2 {w : World} {b : Nat} {o : Obj} (h : w.heap[b]? = some o) : b < w.heap.size := (Array.getElem?_eq_some_iff.1 h).1
/-- All rows of a table. -/
def allS (T : Nat → Int) : List SR := (List.range 16).map fun i : Nat => ((i : Int), rowT T i)
theorem allS_len (T : Nat → Int) : (allS T).length = 16 := by simp [allS]
theorem allS_get (T : Nat → Int) {k : Nat} (h : k < 16) : (allS T)[k]?.getD sr0 = ((k : Int), rowT T k) := by simp [allS, h]

set_option maxRecDepth 100000 in
set_option maxHeartbeats 2000000 in
theorem srows_in (n : Nat) (T : Nat → Int) (w : World) :
    CallsIn Fence.wide n Try.prog 44 #[tabV T] w fun e w' => e = .returned (.func (.func 65) #[] #[.pointer (some ⟨w.heap.size, 0, none⟩)]) ∧ w' = w.alloc (.cells (numL 65 T).toArray 26) := by
  refine callsIn_of_wp Try.func44 rfl trivial ?_ rfl
  simp only [Try.ntmps44, List.size_toArray, List.length_cons, List.length_nil, Nat.reduceAdd, Nat.reduceSub, Array.replicate_succ, Array.replicate_zero, List.push_toArray, List.append_toArray, List.nil_append, List.cons_append]
  gi_wp2
  go_ret
  exact ⟨rfl, rfl⟩

set_option maxRecDepth 100000 in
set_option maxHeartbeats 4000000 in
theorem srowIter_in (n : Nat) (hn : 1 ≤ n) (B : Nat) (T : Nat → Int) (l : Nat) (Kp : World → World → Prop) (J Jx : List SR → World → Prop) (W : World) (hb : NB B 26 65 T W)
    (hN : ∀ pre V V', J pre V → Below V.heap.size V V' → J pre V')
    (hY : ∀ pre x V, J pre V → RwOk (allS T) pre x → YieldAt Fence.wide (n - 1) Try.prog l (encRw x) V fun e V' => (e = .returned (.bool true) ∧ J (pre ++ [x]) V' ∧ Kp V V') ∨ (e = .returned (.bool false) ∧ Jx (pre ++ [x]) V'))
    (h0 : J [] W) :
    CallsIn Fence.wide n Try.prog 65 #[.func (.yield l) #[] #[], .pointer (some ⟨B, 0, none⟩)] W fun e W' => (∃ v, e = .returned v) ∧
      ((∃ xs, xs = allS T ∧ J xs W') ∨ (∃ pre, True ∧ Jx pre W')) := by
  refine callsIn_of_wp Try.func65 rfl trivial ?_ rfl
  simp only [Try.ntmps65, List.size_toArray, List.length_cons, List.length_nil, Nat.reduceAdd, Nat.reduceSub, Array.replicate_succ, Array.replicate_zero, List.push_toArray, List.append_toArray, List.nil_append, List.cons_append]
  have q := ld_rows hb
  have HN := Lib.hid hN
  have HY := Lib.hid hY
  clear hN hY hb
  gi_wp2
  gi_loopw [7] (fun i wr => ∃ k : Nat, k ≤ 16 ∧ i = .int .i64 (k : Nat) ∧ J ((allS T).take k) wr) (fun i _ => 16 - (intOf i).toNat)
  case atStart => exact ⟨0, by omega, rfl, h0⟩
  case round =>
    obtain ⟨k, hk, rfl, hJ⟩ := hrel
    have HJ := Lib.hid hJ
    clear hJ
    by_cases hlt : k < 16
    · have hx := idx_row T wr k hlt
      have hk1 : (k : Int) < 16 := by omega
      have hl : ((allS T).take k).length = k := by rw [List.length_take, allS_len]; omega
      have hY2 := HY.out ((allS T).take k) ((k : Int), rowT T k) (wr.alloc (.cells #[.int .i64 (rowT T k).1, .int .i64 (rowT T k).2.1, .int .i64 (rowT T k).2.2.1, .int .i64 (rowT T k).2.2.2] 23)) (HN.out _ _ _ HJ.out ((Below.refl _ wr).alloc (Nat.le_refl _) _)) ⟨by rw [hl, allS_len]; exact hlt, by rw [hl], by rw [hl, allS_get T hlt]⟩
      have HS := Lib.hid (show (allS T).take k ++ [((k : Int), rowT T k)] = (allS T).take (k + 1) by
        rw [List.take_add_one, List.getElem?_eq_getElem (by rw [allS_len]; exact hlt), ← allS_get T hlt, List.getElem?_eq_getElem (by rw [allS_len]; exact hlt)]
        rfl)
      unfold encRw srV at hY2
      clear hl
      generalize rowT T k = u at *
      obtain ⟨u0, u1, u2, u3⟩ := u
      obtain ⟨fn, tmps, assign, body, hy, hr⟩ := hY2
      have y := (show (Instr.yield l #[.agg #[.int .i64 (k : Nat), .int .i64 u0, .int .i64 u1, .int .i64 u2, .int .i64 u3]]).run Try.prog _ = .ok (.round l fn tmps assign body) _ from hy)
      have HR := Lib.hid hr
      clear hy hr
      have hd := heap_alloc_new wr (.cells #[.int .i64 0, .int .i64 0, .int .i64 0, .int .i64 0] 23)
      obtain ⟨z0, z1, z2, z3⟩ := ent_cells _ _ _ _ hd
      have f0 := ent_frozen hd 0
      have f1 := ent_frozen hd 1
      have f2 := ent_frozen hd 2
      have f3 := ent_frozen hd 3
      have hX := heap_alloc_new wr (.cells #[.int .i64 u0, .int .i64 u1, .int .i64 u2, .int .i64 u3] 23)
      obtain ⟨x0, x1, x2, x3⟩ := ent_cells _ _ _ _ hX
      clear hd hX q
      gi_wp2
      refine HR.out.mono ?_
      rintro e3 W3 (⟨rfl, J3, _⟩ | ⟨rfl, Jx3⟩)
      · have HJ3 := Lib.hid J3
        clear J3 z0 z1 z2 z3 f0 f1 f2 f3 x0 x1 x2 x3 y hx
        gi_wp2
        go_roundw
        case rel => exact ⟨k + 1, by omega, by go_num, by rw [← HS.out]; exact HJ3.out⟩
        case measure => simp [intOf]; omega
      · have HJ3 := Lib.hid Jx3
        clear Jx3 z0 z1 z2 z3 f0 f1 f2 f3 x0 x1 x2 x3 y hx
        gi_wp2
        refine bodyPost_ret (results_none rfl _ _ _) rfl ?_
        exact ⟨⟨_, rfl⟩, .inr ⟨_, trivial, HJ3.out⟩⟩
    · obtain rfl : k = 16 := by omega
      have e := Lib.hid (show (allS T).take 16 = allS T from List.take_of_length_le (by rw [allS_len]; exact Nat.le_refl _))
      gi_wp2
      go_end0
      exact ⟨⟨_, rfl⟩, .inl ⟨_, rfl, by rw [← e.out]; exact HJ.out⟩⟩

theorem srows_ok (n : Nat) (hn : 1 ≤ n) (B : Nat) (T : Nat → Int) (n0 : Nat) (w : World) (hb : NB B 26 65 T w) : RwSeq n 65 #[.pointer (some ⟨B, 0, none⟩)] (allS T) n0 w :=
  fun l J Jx W m hN _ _ hY h0 => srowIter_in n hn B T l _ J Jx W (nb_below hb m) hN (fun pre x V hj ho => dropK (hY pre x V hj ho)) h0

/-- A sheet, and which error. -/
abbrev ShRes := Int × Int × List SR × Int
/-- A sheet told, its rows in memory of its own, or nothing, and which error. -/
def ShRet (r : ShRes) (w : World) : Ending → World → Prop := fun e w' => ∃ v, e = .returned (.tuple #[.agg #[.int .i64 r.1, .int .i64 r.2.1, v], .int .i64 r.2.2.2]) ∧ w'.ownsRow w.heap.size 63 5 v r.2.2.1.length (flatS rowC r.2.2.1) ∧ Below w.heap.size w w'
/-- A table's snapshot. -/
def ofS (T : Nat → Int) : ShRes := if rgT T = true then (-1, T 0, allS T, 0) else (0, 0, [], 2)
theorem results_sh2 {fn : Func} {p u : Tmp} (h : fn.results = #[.cell p 29, .tmp u]) (tmps : Array Value) (w : World) (g : Nat) (cs : Array Value) (fr : Nat × Nat)
    (hp : tmps.getD p undef = .pointer (some ⟨g, 0, none⟩)) (hg : w.heap[g]? = some (.cells cs 29 fr)) (h9 : cs.size = 3) :
    (results fn tmps).run Try.prog w = .ok (.tuple #[.agg cs, tmps.getD u undef]) w :=
  results_agg_tmp h tmps w g _ cs fr _ hp hg Try.underlying29 rfl (by rw [h9]; exact Try.sizSh)

set_option maxRecDepth 100000 in
set_option maxHeartbeats 4000000 in
theorem sOf_any (T : Nat → Int) (w : World) : Calls Try.prog 11 #[tabV T] w (ShRet (ofS T) w) := by
  have bT := blkN (heap_alloc_new w (.cells (numL 65 T).toArray 26)) (.cells #[.int .i64 0, .int .i64 0, .slice none 0 0] 29)
  have bR := newN (w.alloc (.cells (numL 65 T).toArray 26)) (.cells #[.int .i64 0, .int .i64 0, .slice none 0 0] 29) (w.heap.size + 1) (by simp)
  have L0 := ((Below.refl w.heap.size w).alloc (Nat.le_refl _) (.cells (numL 65 T).toArray 26)).alloc (by simp) (.cells #[.int .i64 0, .int .i64 0, .slice none 0 0] 29)
  have HF := Lib.hid (show ∀ r, ofS T = r → ofS T = r from fun _ h => h)
  go_enter Try.func11, Try.ntmps11
  go_wp2
  generalize (w.alloc (.cells (numL 65 T).toArray 26)).alloc (.cells #[.int .i64 0, .int .i64 0, .slice none 0 0] 29) = W0 at *
  refine wp_scope_jumps 0 (fun a' w' => Below w.heap.size w w' ∧ ofS T = (0, 0, [], 2) ∧ w'.heap[w.heap.size + 1]? = some (.cells #[.int .i64 0, .int .i64 0, .slice none 0 0] 29 (0, 0)) ∧ ∃ (u0 u3 u4 u5 u6 u7 u8 u9 u10 u11 u12 u13 : Value), a' = { tmps := #[u0, .pointer (some ⟨w.heap.size, 0, none⟩), .pointer (some ⟨w.heap.size + 1, 0, none⟩), u3, u4, u5, u6, u7, u8, u9, u10, u11, u12, u13], defers := [] }) (fun _ _ => 0) rfl ?first ?pass
  case pass =>
    rintro a' w' ⟨LL, hf, hR, u0, u3, u4, u5, u6, u7, u8, u9, u10, u11, u12, u13, rfl⟩
    have HR := Lib.hid hR
    have HE := Lib.hid (And.intro LL hf)
    obtain ⟨y0, y1, y2⟩ := sh_cells _ _ _ _ _ hR
    have f0 := sh_frozen hR 0
    have f1 := sh_frozen hR 1
    have f3 := sh_frozen hR 2
    clear LL hf hR bT bR L0
    go_wp2
    simp only [Exit.jump]
    refine bodyPost_ret (results_sh2 rfl _ _ (w.heap.size + 1) _ (0, 0) rfl (full_setCells HR.out [.int .i64 0, .int .i64 0, .slice none 0 0] rfl) rfl) rfl ?_
    rw [HE.out.2]
    exact ⟨_, rfl, World.ownsRow_nil _ _ _ _, below_setCells (w.heap.size + 1) (by omega) [.int .i64 0, .int .i64 0, .slice none 0 0] 0 w _ HE.out.1⟩
  case first =>
    have l0 := ld_tab bT
    obtain ⟨g, hg⟩ : ∃ g, rgT T = g := ⟨_, rfl⟩
    have KR := Lib.hid (hg ▸ callsIn_wide.1 (right_in 4 (by omega) T W0))
    go_wp2_with fail
    refine KR.out.mono ?_
    rintro e w1 ⟨rfl, m1⟩
    have hF := show ofS T = if g = true then (-1, T 0, allS T, 0) else (0, 0, [], 2) by unfold ofS; rw [hg]
    have HF := Lib.hid hF
    clear hF
    replace bT := bb bT m1
    replace bR := bb bR m1
    have LL := L0.trans (m1.mono L0.size)
    clear l0 m1 KR hg
    cases g
    · have HE := Lib.hid (And.intro LL (And.intro HF.out bR))
      clear LL bT bR
      go_wp2
      go_step3
      exact ⟨rfl, HE.out.1, by rw [HE.out.2.1]; rfl, HE.out.2.2, _, _, _, _, _, _, _, _, _, _, _, _, rfl⟩
    have bRz : w.heap.size + 1 < w1.heap.size := nb_lt2 bR
    go_upto_region 2 with fail
    have nc := (Below.refl w1.heap.size w1).drew
    have CT := Lib.hid (fun W (m : Below w1.heap.size w1 W) => bb bT m)
    have CR := Lib.hid (fun W (m : Below w1.heap.size w1 W) => And.intro (bb bR m) (LL.trans (m.mono LL.size)))
    have CS := Lib.hid (fun W (m : Below w1.heap.size w1 W) => show (ldS 26 (.pointer (some ⟨w.heap.size, 0, none⟩))).run Try.prog W = .ok (tabV T) W ∧ W.cell? ⟨w.heap.size, 0, none⟩ = some (.int .i64 (T 0)) from ⟨ld_tab (bb bT m), nb_cell (bb bT m) (by omega)⟩)
    clear LL bT bR
    refine wp_region_held_drew (S := fun W => (ldS 26 (.pointer (some ⟨w.heap.size, 0, none⟩))).run Try.prog W = .ok (tabV T) W ∧ W.cell? ⟨w.heap.size, 0, none⟩ = some (.int .i64 (T 0))) (by kernel_rfl) (CS.out _ nc) (fun hHeld => ?_)
    refine wpAnyH_take (i := 0) (oi := { dst := some 7, op := Op.fieldAddr 26 (Operand.tmp 1) 0, type := 0, pos := "sheet.go:55", after := #[], guard := none }) (v := ?_) rfl (by kernel_rfl) (by kernel_rfl) (by kernel_rfl) (fun _ _ _ h => h) (Or.inl ⟨by rfl, ?_⟩) (by assumption) ?_
    rotate_left
    · intro w hSw
      (try dsimp only at hSw)
      first | (go_simp; done) | (go_simp; with_reducible rfl)
    (try simp only [Act.put, List.setIfInBounds_toArray, List.set_cons_zero, List.set_cons_succ])
    refine wpAnyH_take (i := 1) (oi := { dst := some 8, op := Op.load 3 (Operand.tmp 7), type := 3, pos := "sheet.go:55", after := #[{ on := 0, ground := Ground.data }], guard := none }) (v := ?_) rfl (by kernel_rfl) (by kernel_rfl) (by kernel_rfl) (fun _ _ _ h => h) (Or.inl ⟨by rfl, ?_⟩) (by assumption) ?_
    rotate_left
    · intro w hSw
      (try dsimp only at hSw)
      first | (go_simp; done) | (go_simp; with_reducible rfl)
    (try simp only [Act.put, List.setIfInBounds_toArray, List.set_cons_zero, List.set_cons_succ])
    refine wpAnyH_take (i := 2) (oi := { dst := some 9, op := Op.load 26 (Operand.tmp 1), type := 26, pos := "sheet.go:55", after := #[], guard := none }) (v := ?_) rfl (by kernel_rfl) (by kernel_rfl) (by kernel_rfl) (fun _ _ _ h => h) (Or.inl ⟨by rfl, ?_⟩) (by assumption) ?_
    rotate_left
    · intro w hSw
      (try dsimp only at hSw)
      first | (go_simp; done) | (go_simp; with_reducible rfl)
    (try simp only [Act.put, List.setIfInBounds_toArray, List.set_cons_zero, List.set_cons_succ])
    refine wpAnyH_ready (rs := [3]) (by kernel_rfl) (by simp) ?_
    refine AllReadyH.cons (o := { dst := some 10, op := Op.call { callee := Callee.value (Operand.func 44), args := #[Operand.tmp 9], argTypes := #[26] }, type := 72, pos := "sheet.go:55", after := #[{ on := 2, ground := Ground.data }], guard := none }) rfl (fun K hK => ?_) AllReadyH.nil
    go_simp
    refine (callsIn_wide.1 (srows_in 1 T _)).mono ?_
    rintro e wx ⟨rfl, rfl⟩
    have jx := (Below.refl w1.drew.heap.size w1.drew).alloc (Nat.le_refl _) (.cells (numL 65 T).toArray 26)
    have bV := heap_alloc_new w1.drew (.cells (numL 65 T).toArray 26)
    replace nc := nc.trans (jx.mono nc.size)
    clear jx
    refine hK.out _ _ (CS.out _ nc) (fun hHeld => ?_)
    clear hK K
    (try simp only [Act.put, List.setIfInBounds_toArray, List.set_cons_zero, List.set_cons_succ])
    refine wpAnyH_ready (rs := [4]) (by kernel_rfl) (by simp) ?_
    refine AllReadyH.cons (o := { dst := some 11, op := Op.call { callee := Callee.value (Operand.func 43), args := #[Operand.tmp 10], argTypes := #[72] }, type := 27, pos := "sheet.go:55", after := #[{ on := 3, ground := Ground.data }, { on := 3, ground := Ground.chain }], guard := none }) rfl (fun K hK => ?_) AllReadyH.nil
    go_simp
    refine (collectR_any _ _ (allS T) (by rw [allS_len]; omega) _ (enters_of Try.func65 (by kernel_rfl) rfl) (fun W m => srows_ok 9 (by omega) _ T _ W (bb bV m))).mono ?_
    rintro e w2 ⟨v', rfl, O2, jx⟩
    replace nc := nc.trans (jx.mono nc.size)
    clear jx
    have O3 := ownS_base O2 (b' := w1.heap.size) (by simp)
    have hR := (CR.out _ nc).1
    obtain ⟨A, c, rfl, -, -, -⟩ := ownS_slice O3
    obtain ⟨y0, y1, y2⟩ := sh_cells _ _ _ _ _ hR
    have f0 := sh_frozen hR 0
    have f1 := sh_frozen hR 1
    have f3 := sh_frozen hR 2
    have HT6 := Lib.hid (show NB w.heap.size 26 65 T (w2.setCells (w.heap.size + 1) 0 [.int .i64 (-1), .int .i64 (T 0), .slice A (allS T).length c]) from (nb_other (by omega) _ _ _).trans (CT.out _ nc))
    have HL6 := Lib.hid (below_setCells (w.heap.size + 1) (by omega) [.int .i64 (-1), .int .i64 (T 0), .slice A (allS T).length c] 0 w _ (CR.out _ nc).2)
    have HO6 := Lib.hid (ownS_apart (by decide) [.int .i64 (-1), .int .i64 (T 0), .slice A (allS T).length c] 0 _ _ O3 hR)
    have HR6 := Lib.hid (full_setCells hR [.int .i64 (-1), .int .i64 (T 0), .slice A (allS T).length c] rfl)
    have nc6 := nc
    clear O2 O3 hR bV
    refine hK.out _ _ (CS.out _ nc) (fun hHeld => ?_)
    clear hK K
    (try simp only [Act.put, List.setIfInBounds_toArray, List.set_cons_zero, List.set_cons_succ])
    refine wpAnyH_take (i := 5) (oi := { dst := some 12, op := Op.build 29 #[(0, Operand.const (Value.int IntKind.i64 (-1))), (1, Operand.tmp 8), (2, Operand.tmp 11)], type := 29, pos := "sheet.go:55", after := #[{ on := 1, ground := Ground.data }, { on := 4, ground := Ground.data }], guard := none }) (v := ?_) rfl (by kernel_rfl) (by kernel_rfl) (by kernel_rfl) (fun _ _ _ h => h) (Or.inl ⟨by rfl, ?_⟩) (by assumption) ?_
    rotate_left
    · intro w hSw
      (try dsimp only at hSw)
      first | (go_simp; done) | (go_simp; with_reducible rfl)
    (try simp only [Act.put, List.setIfInBounds_toArray, List.set_cons_zero, List.set_cons_succ])
    refine wpAnyH_ready (rs := [6]) (by kernel_rfl) (by simp) ?_
    refine AllReadyH.cons (o := { dst := none, op := Op.store 29 (Operand.tmp 2) (Operand.tmp 12), type := 0, pos := "sheet.go:55", after := #[{ on := 5, ground := Ground.data }, { on := 4, ground := Ground.chain }, { on := 0, ground := Ground.phase }, { on := 1, ground := Ground.phase }, { on := 2, ground := Ground.phase }, { on := 3, ground := Ground.phase }, { on := 4, ground := Ground.phase }, { on := 5, ground := Ground.phase }], guard := none }) rfl (fun K hK => ?_) AllReadyH.nil
    go_simp
    refine hK.out _ _ ⟨ld_tab HT6.out, nb_cell HT6.out (by omega)⟩ (fun hHeld => ?_)
    clear hK K
    (try simp only [Act.put, List.setIfInBounds_toArray, List.set_cons_zero, List.set_cons_succ])
    refine wpAnyH_take (i := 7) (oi := { dst := some 3, op := Op.assign (Operand.const (Value.int IntKind.i64 0)), type := 33, pos := "sheet.go:55", after := #[{ on := 6, ground := Ground.chain }, { on := 0, ground := Ground.phase }, { on := 1, ground := Ground.phase }, { on := 2, ground := Ground.phase }, { on := 3, ground := Ground.phase }, { on := 4, ground := Ground.phase }, { on := 5, ground := Ground.phase }, { on := 6, ground := Ground.phase }], guard := none }) (v := ?_) rfl (by kernel_rfl) (by kernel_rfl) (by kernel_rfl) (fun _ _ _ h => h) (Or.inl ⟨by rfl, ?_⟩) (by assumption) ?_
    rotate_left
    · intro w hSw
      (try dsimp only at hSw)
      first | (go_simp; done) | (go_simp; with_reducible rfl)
    (try simp only [Act.put, List.setIfInBounds_toArray, List.set_cons_zero, List.set_cons_succ])
    refine wpAnyH_done (by kernel_rfl) ?_ _
    clear y0 y1 y2 f0 f1 f3
    go_wp2
    simp only [Exit.jump]
    refine bodyPost_ret (results_sh2 rfl _ _ (w.heap.size + 1) _ (0, 0) rfl HR6.out rfl) rfl ?_
    rw [HF.out]
    exact ⟨_, rfl, by have := HO6.out; rw [allS_len] at this ⊢; exact ownS_base this (by omega), HL6.out⟩


end Go.Proofs.Ythgoopdekllanaa
