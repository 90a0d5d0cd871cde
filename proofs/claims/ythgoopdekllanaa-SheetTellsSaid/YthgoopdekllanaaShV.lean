/- The law's own: are two answers of bytes the same, is a sheet too great, the two tables of wakes. -/
import Derived.Test.YthgoopdekllanaaShU
import Derived.Test.YthgoopdekllanaaShH
import Derived.Test.YthgoopdekllanaaShI
import Derived.Test.YthgoopdekllanaaShR
import Derived.Test.YthgoopdekllanaaTbC
import Derived.Test.YthgoopdekllanaaTbN
namespace Go.Proofs.Ythgoopdekllanaa
open Go.RowKit Go.Shelf
open SumM

set_option maxRecDepth 100000 in
theorem law11Same_any (a : Option Addr) (n c : Nat) (zs : List Int) (a' : Option Addr) (n' c' : Nat) (ys : List Int) (B B' : Nat) (w : World) (h : Row .u8 B w a zs) (hl : zs.length = n) (h' : Row .u8 B' w a' ys) (hl' : ys.length = n') :
    Calls Try.prog 20 #[.slice a n c, .slice a' n' c'] w fun e w' => e = .returned (.bool (eqB zs ys)) ∧ w = w' := by
  have e1 := h.str n c hl
  have e2 := h'.str n' c' hl'
  have HE := Lib.hid (str_eq (row_in h) (row_in h'))
  clear h h' hl hl'
  go_enter Try.func20, Try.ntmps20
  go_wp2
  go_ret
  exact ⟨ret_bool HE.out, rfl⟩
set_option maxRecDepth 100000 in
set_option maxHeartbeats 8000000 in
theorem great_any (ba tv : Int) (sa : Option Addr) (sn sc : Nat) (w : World) :
    Calls Try.prog 9 #[.agg #[.int .i64 ba, .int .i64 tv, .slice sa sn sc]] w fun e w' => e = .returned (.bool (decide ((40 : Int) < (sn : Int)))) ∧ Below w.heap.size w w' := by
  have bS := heap_alloc_new w (.cells #[.int .i64 ba, .int .i64 tv, .slice sa sn sc] 29)
  obtain ⟨q0, q1, q2⟩ := sh_cells _ _ _ _ _ bS
  have L := (Below.refl w.heap.size w).alloc (Nat.le_refl _) (.cells #[.int .i64 ba, .int .i64 tv, .slice sa sn sc] 29)
  go_enter Try.func9, Try.ntmps9
  go_wp2
  go_ret
  exact ⟨rfl, L⟩
/-- The tables of wakes: the rows so far, the elder, the newer. -/
def rT : Nat → Nat → Int
  | 0 => zeroT
  | k + 1 => setR (rT k) k (((k % 3 : Nat) : Int), -1, 1, 0)
def elT : Nat → Int := upd (rT 16) 0 4
def nwT : Nat → Int := setR (upd elT 0 7) 3 (1, 0, 2, 9)
attribute [local go_sem] Oper.semAt_some
attribute [local go_sem ↓] zero_tab
attribute [local go_sem ↓] nm_ldT nm_stT
theorem results_cells2 {fn : Func} {p u : Tmp} {ty ty' : TypeId} (h : fn.results = #[.cell p ty, .cell u ty']) (tmps : Array Value) (w : World) (g g' : Nat) (cs cs' : Array Value) (fr fr' : Nat × Nat) (t t' : TypeId) (d d' : TypeDesc)
    (hp : tmps.getD p undef = .pointer (some ⟨g, 0, none⟩)) (hg : w.heap[g]? = some (.cells cs t fr)) (hu : Try.prog.underlying ty = some d) (hd : d.isRow = true) (hi : (Try.prog.info? ty).map (·.size) = some cs.size)
    (hp' : tmps.getD u undef = .pointer (some ⟨g', 0, none⟩)) (hg' : w.heap[g']? = some (.cells cs' t' fr')) (hu' : Try.prog.underlying ty' = some d') (hd' : d'.isRow = true) (hi' : (Try.prog.info? ty').map (·.size) = some cs'.size) :
    (results fn tmps).run Try.prog w = .ok (.tuple #[.agg cs, .agg cs']) w := by
  have e1 := run_loadVar_row (P := Try.prog) w g t ty cs fr d hg hu (by cases d <;> first | rfl | exact hd) hi
  have e2 := run_loadVar_row (P := Try.prog) w g' t' ty' cs' fr' d' hg' hu' (by cases d' <;> first | rfl | exact hd') hi'
  have hq : tmps[p]?.getD undef = .pointer (some ⟨g, 0, none⟩) := by simpa using hp
  have hq' : tmps[u]?.getD undef = .pointer (some ⟨g', 0, none⟩) := by simpa using hp'
  simp [results, h, hq, hq', asAddr, e1, e2, Sem.run_bind, Result.andThen]
/-- A row's cells, and that they may be stored. -/
theorem nb_cells4 {w : World} {b : Nat} {ty : TypeId} {T : Nat → Int} (h : NB b ty 65 T w) (i : Nat) (hi : i < 16) : w.cell? ⟨b, 1 + i * 4, none⟩ = some (.int .i64 (T (1 + i * 4))) ∧ w.cell? ⟨b, 1 + i * 4 + 1, none⟩ = some (.int .i64 (T (1 + i * 4 + 1))) ∧ w.cell? ⟨b, 1 + i * 4 + 2, none⟩ = some (.int .i64 (T (1 + i * 4 + 2))) ∧ w.cell? ⟨b, 1 + i * 4 + 3, none⟩ = some (.int .i64 (T (1 + i * 4 + 3))) :=
  ⟨nb_cell h (by omega), nb_cell h (by omega), nb_cell h (by omega), nb_cell h (by omega)⟩
set_option maxRecDepth 100000 in
set_option maxHeartbeats 8000000 in
theorem tables_any (w : World) :
    Calls Try.prog 41 #[] w fun e w' => e = .returned (.tuple #[tabV elT, tabV nwT]) ∧ Below w.heap.size w w' := by
  have z0 : NB w.heap.size 26 65 zeroT (((w.alloc (.cells (numL 65 zeroT).toArray 26)).alloc (.cells (numL 65 zeroT).toArray 26)).alloc (.cells (numL 65 zeroT).toArray 26)) := blkN (blkN (heap_alloc_new w _) _) _
  have z1 : NB (w.heap.size + 1) 26 65 zeroT (((w.alloc (.cells (numL 65 zeroT).toArray 26)).alloc (.cells (numL 65 zeroT).toArray 26)).alloc (.cells (numL 65 zeroT).toArray 26)) := blkN (newN _ _ _ (by simp)) _
  have z2 : NB (w.heap.size + 1 + 1) 26 65 zeroT (((w.alloc (.cells (numL 65 zeroT).toArray 26)).alloc (.cells (numL 65 zeroT).toArray 26)).alloc (.cells (numL 65 zeroT).toArray 26)) := newN _ _ _ (by simp)
  have L0 := (((Below.refl w.heap.size w).alloc (Nat.le_refl _) (.cells (numL 65 zeroT).toArray 26)).alloc (by simp) (.cells (numL 65 zeroT).toArray 26)).alloc (by simp; omega) (.cells (numL 65 zeroT).toArray 26)
  have hs0 : (((w.alloc (.cells (numL 65 zeroT).toArray 26)).alloc (.cells (numL 65 zeroT).toArray 26)).alloc (.cells (numL 65 zeroT).toArray 26)).heap.size = w.heap.size + 3 := by simp
  have H0 := Lib.hid (And.intro z0 (And.intro z1 (And.intro z2 (And.intro L0 hs0))))
  clear z0 z1 z2 L0 hs0
  go_enter Try.func41, Try.ntmps41
  go_wp2
  generalize ((w.alloc (.cells (numL 65 zeroT).toArray 26)).alloc (.cells (numL 65 zeroT).toArray 26)).alloc (.cells (numL 65 zeroT).toArray 26) = W0 at *
  go_loopw [3] (fun i wr => ∃ k : Nat, k ≤ 16 ∧ i = .int .i64 k ∧ NB w.heap.size 26 65 zeroT wr ∧ NB (w.heap.size + 1) 26 65 zeroT wr ∧ NB (w.heap.size + 1 + 1) 26 65 (rT k) wr ∧ Below w.heap.size w wr ∧ wr.heap.size = w.heap.size + 3) (fun i _ => 16 - (intOf i).toNat)
  case atStart => exact ⟨0, Nat.zero_le _, rfl, H0.out⟩
  case round =>
    obtain ⟨k, hk, rfl, hN⟩ := hrel
    have HN := Lib.hid hN
    clear hN
    by_cases hlt : k < 16
    · have q1 : decide ((k : Int) < 16) = true := decide_eq_true (by omega)
      obtain ⟨c0, c1, c2, c3⟩ := nb_cells4 HN.out.2.2.1 k hlt
      have f0 := nb_frozen HN.out.2.2.1 (1 + k * 4)
      have f1 := nb_frozen HN.out.2.2.1 (1 + k * 4 + 1)
      have f2 := nb_frozen HN.out.2.2.1 (1 + k * 4 + 2)
      have f3 := nb_frozen HN.out.2.2.1 (1 + k * 4 + 3)
      have HQ := Lib.hid (show ∀ V, V = wr.setCells (w.heap.size + 1 + 1) (1 + k * 4) [.int .i64 ((k % 3 : Nat) : Int), .int .i64 (-1), .int .i64 1, .int .i64 0] → NB w.heap.size 26 65 zeroT V ∧ NB (w.heap.size + 1) 26 65 zeroT V ∧ NB (w.heap.size + 1 + 1) 26 65 (rT (k + 1)) V ∧ Below w.heap.size w V ∧ V.heap.size = w.heap.size + 3 from by
        rintro V rfl
        exact ⟨(nb_other (by omega) _ _ _).trans HN.out.1, (nb_other (by omega) _ _ _).trans HN.out.2.1, nb_row HN.out.2.2.1 k (((k % 3 : Nat) : Int), -1, 1, 0), below_setCells (w.heap.size + 1 + 1) (by omega) _ _ w _ HN.out.2.2.2.1, by simpa [World.setCells] using HN.out.2.2.2.2⟩)
      go_wp2
      go_roundw
      case rel => exact ⟨k + 1, by omega, by go_num, HQ.out _ rfl⟩
      case measure => simp [intOf]; omega
    · have q1 : decide ((k : Int) < 16) = false := decide_eq_false (by omega)
      have hk16 : k = 16 := by omega
      have HN2 := Lib.hid (hk16 ▸ HN.out)
      have c0 := nb_cell HN2.out.2.2.1 (show 0 < 65 by omega)
      have f0 := nb_frozen HN2.out.2.2.1 0
      clear HN
      have n1 : NB (w.heap.size + 1 + 1) 26 65 elT (wr.setCell ⟨w.heap.size + 1 + 1, 0, none⟩ (.int .i64 4)) := nb_put HN2.out.2.2.1 0 4
      have y0 : NB w.heap.size 26 65 zeroT (wr.setCell ⟨w.heap.size + 1 + 1, 0, none⟩ (.int .i64 4)) := (nb_other (by omega) [.int .i64 4] 0 _).trans HN2.out.1
      have y1 : NB (w.heap.size + 1) 26 65 zeroT (wr.setCell ⟨w.heap.size + 1 + 1, 0, none⟩ (.int .i64 4)) := (nb_other (by omega) [.int .i64 4] 0 _).trans HN2.out.2.1
      have L1 : Below w.heap.size w (wr.setCell ⟨w.heap.size + 1 + 1, 0, none⟩ (.int .i64 4)) := HN2.out.2.2.2.1.setCell (p := ⟨w.heap.size + 1 + 1, 0, none⟩) (by simp; omega) _
      have hz : (wr.setCell ⟨w.heap.size + 1 + 1, 0, none⟩ (.int .i64 4)).heap.size = w.heap.size + 1 + 1 + 1 := by simpa using HN2.out.2.2.2.2
      have HX := Lib.hid (And.intro y0 (And.intro y1 (And.intro L1 (And.intro n1 hz))))
      have l0 := ld_tab n1
      clear HN2 y0 y1 L1 n1 hk hlt
      go_upto_region 7 with fail
      clear c0 f0
      generalize wr.setCell ⟨w.heap.size + 1 + 1, 0, none⟩ (.int .i64 4) = W1 at *
      have s1 := st_new W1 elT
      obtain ⟨bN, j1⟩ := boxT_new W1 elT
      clear hz
      go_upto_region 8 with fail
      have hs3 := HX.out.2.2.2.2
      have HO := Lib.hid (show NB w.heap.size 26 65 zeroT ((W1.alloc (.cells (numL 65 zeroT).toArray 26)).setCells W1.heap.size 0 (numL 65 elT)) ∧ NB (w.heap.size + 1) 26 65 zeroT ((W1.alloc (.cells (numL 65 zeroT).toArray 26)).setCells W1.heap.size 0 (numL 65 elT)) ∧ NB (w.heap.size + 1 + 1) 26 65 elT ((W1.alloc (.cells (numL 65 zeroT).toArray 26)).setCells W1.heap.size 0 (numL 65 elT)) ∧ Below w.heap.size w ((W1.alloc (.cells (numL 65 zeroT).toArray 26)).setCells W1.heap.size 0 (numL 65 elT)) ∧ NB W1.heap.size 26 65 elT ((W1.alloc (.cells (numL 65 zeroT).toArray 26)).setCells W1.heap.size 0 (numL 65 elT)) ∧ W1.heap.size = w.heap.size + 1 + 1 + 1 from
        ⟨nb_below HX.out.1 j1, nb_below HX.out.2.1 j1, nb_below HX.out.2.2.2.1 j1, HX.out.2.2.1.trans (j1.mono HX.out.2.2.1.size), bN, hs3⟩)
      clear s1 bN j1 hs3 HX l0
      generalize (W1.alloc (.cells (numL 65 zeroT).toArray 26)).setCells W1.heap.size 0 (numL 65 elT) = W2 at *
      generalize W1.heap.size = B3 at *
      have c0 := nb_cell HO.out.2.2.2.2.1 (show 0 < 65 by omega)
      have c1 : W2.cell? ⟨B3, 13, none⟩ = _ := nb_cell HO.out.2.2.2.2.1 (show 13 < 65 by omega)
      have c2 : W2.cell? ⟨B3, 14, none⟩ = _ := nb_cell HO.out.2.2.2.2.1 (show 14 < 65 by omega)
      have c3 : W2.cell? ⟨B3, 15, none⟩ = _ := nb_cell HO.out.2.2.2.2.1 (show 15 < 65 by omega)
      have c4 : W2.cell? ⟨B3, 16, none⟩ = _ := nb_cell HO.out.2.2.2.2.1 (show 16 < 65 by omega)
      have f0 := nb_frozen HO.out.2.2.2.2.1 0
      have f1 := nb_frozen HO.out.2.2.2.2.1 13
      have f2 := nb_frozen HO.out.2.2.2.2.1 14
      have f3 := nb_frozen HO.out.2.2.2.2.1 15
      have f4 := nb_frozen HO.out.2.2.2.2.1 16
      go_wp2_with fail
      have HP := Lib.hid (show ∀ V, V = (((((W2.setCell ⟨B3, 0, none⟩ (.int .i64 7)).setCell ⟨B3, 13, none⟩ (.int .i64 1)).setCell ⟨B3, 14, none⟩ (.int .i64 0)).setCell ⟨B3, 15, none⟩ (.int .i64 2)).setCell ⟨B3, 16, none⟩ (.int .i64 9) : World) → NB w.heap.size 26 65 zeroT V.drew ∧ NB (w.heap.size + 1) 26 65 zeroT V.drew ∧ NB (w.heap.size + 1 + 1) 26 65 elT V.drew ∧ NB B3 26 65 nwT V.drew ∧ Below w.heap.size w V.drew from by
        rintro V rfl
        have h3 := HO.out.2.2.2.2.2
        refine ⟨(nb_other (by omega) [.int .i64 1, .int .i64 0, .int .i64 2, .int .i64 9] 13 _).trans ((nb_other (by omega) [.int .i64 7] 0 _).trans HO.out.1), (nb_other (by omega) [.int .i64 1, .int .i64 0, .int .i64 2, .int .i64 9] 13 _).trans ((nb_other (by omega) [.int .i64 7] 0 _).trans HO.out.2.1), (nb_other (by omega) [.int .i64 1, .int .i64 0, .int .i64 2, .int .i64 9] 13 _).trans ((nb_other (by omega) [.int .i64 7] 0 _).trans HO.out.2.2.1), nb_row (nb_put HO.out.2.2.2.2.1 0 7) 3 (1, 0, 2, 9), ?_⟩
        exact (below_setCells B3 (by omega) [.int .i64 1, .int .i64 0, .int .i64 2, .int .i64 9] 13 w _ (below_setCells B3 (by omega) [.int .i64 7] 0 w _ HO.out.2.2.2.1)).drew)
      clear c0 c1 c2 c3 c4 f0 f1 f2 f3 f4
      generalize ((((W2.setCell ⟨B3, 0, none⟩ (.int .i64 7)).setCell ⟨B3, 13, none⟩ (.int .i64 1)).setCell ⟨B3, 14, none⟩ (.int .i64 0)).setCell ⟨B3, 15, none⟩ (.int .i64 2)).setCell ⟨B3, 16, none⟩ (.int .i64 9) = W3 at *
      have HP := Lib.hid (HP.out W3 rfl)
      have hB3 := HO.out.2.2.2.2.2
      have s2 := st_tab HP.out.1 elT
      have HP2 := Lib.hid (show NB (w.heap.size + 1) 26 65 zeroT (W3.drew.setCells w.heap.size 0 (numL 65 elT)) ∧ NB (w.heap.size + 1 + 1) 26 65 elT (W3.drew.setCells w.heap.size 0 (numL 65 elT)) ∧ NB B3 26 65 nwT (W3.drew.setCells w.heap.size 0 (numL 65 elT)) ∧ NB w.heap.size 26 65 elT (W3.drew.setCells w.heap.size 0 (numL 65 elT)) ∧ Below w.heap.size w (W3.drew.setCells w.heap.size 0 (numL 65 elT)) from
        ⟨(nb_other (by omega) _ _ _).trans HP.out.2.1, (nb_other (by omega) _ _ _).trans HP.out.2.2.1, (nb_other (by omega) _ _ _).trans HP.out.2.2.2.1, nb_full HP.out.1 elT, below_setCells w.heap.size (Nat.le_refl _) _ 0 w _ HP.out.2.2.2.2⟩)
      have s3 := st_tab HP2.out.1 nwT
      have HP3 := Lib.hid (show NB w.heap.size 26 65 elT ((W3.drew.setCells w.heap.size 0 (numL 65 elT)).setCells (w.heap.size + 1) 0 (numL 65 nwT)) ∧ NB (w.heap.size + 1) 26 65 nwT ((W3.drew.setCells w.heap.size 0 (numL 65 elT)).setCells (w.heap.size + 1) 0 (numL 65 nwT)) ∧ NB (w.heap.size + 1 + 1) 26 65 elT ((W3.drew.setCells w.heap.size 0 (numL 65 elT)).setCells (w.heap.size + 1) 0 (numL 65 nwT)) ∧ NB B3 26 65 nwT ((W3.drew.setCells w.heap.size 0 (numL 65 elT)).setCells (w.heap.size + 1) 0 (numL 65 nwT)) ∧ Below w.heap.size w ((W3.drew.setCells w.heap.size 0 (numL 65 elT)).setCells (w.heap.size + 1) 0 (numL 65 nwT)) from
        ⟨(nb_other (by omega) _ _ _).trans HP2.out.2.2.2.1, nb_full HP2.out.1 nwT, (nb_other (by omega) _ _ _).trans HP2.out.2.1, (nb_other (by omega) _ _ _).trans HP2.out.2.2.1, below_setCells (w.heap.size + 1) (by omega) _ 0 w _ HP2.out.2.2.2.2⟩)
      clear HO hB3
      generalize hq1 : elT = tq at *
      generalize hq2 : nwT = tn at *
      have HQ := Lib.hid (And.intro hq1 hq2)
      clear hq1 hq2
      refine wp_region_held_drew (S := fun W => (ldS 26 (.pointer (some ⟨w.heap.size + 1 + 1, 0, none⟩))).run Try.prog W = .ok (tabV tq) W ∧ (ldS 26 (.pointer (some ⟨B3, 0, none⟩))).run Try.prog W = .ok (tabV tn) W) (by kernel_rfl) ⟨ld_tab HP.out.2.2.1, ld_tab HP.out.2.2.2.1⟩ (fun hHeld => ?_)
      refine wpAnyH_take (i := 0) (oi := { dst := some 21, op := Op.load 26 (Operand.tmp 2), type := 26, pos := "law.go:21", after := #[], guard := none }) (v := ?_) rfl (by kernel_rfl) (by kernel_rfl) (by kernel_rfl) (fun _ _ _ h => h) (Or.inl ⟨by rfl, ?_⟩) (by assumption) ?_
      rotate_left
      · intro w hSw
        (try dsimp only at hSw)
        first | (go_simp; done) | (go_simp; with_reducible rfl)
      (try simp only [Act.put, List.setIfInBounds_toArray, List.set_cons_zero, List.set_cons_succ])
      refine wpAnyH_take (i := 1) (oi := { dst := some 22, op := Op.load 26 (Operand.tmp 4), type := 26, pos := "law.go:21", after := #[{ on := 2, ground := Ground.gcOnly Departure.lateStores }], guard := none }) (v := ?_) rfl (by kernel_rfl) (by kernel_rfl) (by kernel_rfl) (fun _ _ _ h => h) (Or.inl ⟨by rfl, ?_⟩) (by assumption) ?_
      rotate_left
      · intro w hSw
        (try dsimp only at hSw)
        first | (go_simp; done) | (go_simp; with_reducible rfl)
      (try simp only [Act.put, List.setIfInBounds_toArray, List.set_cons_zero, List.set_cons_succ])
      refine wpAnyH_ready (rs := [2]) (by kernel_rfl) (by simp) ?_
      refine AllReadyH.cons (o := { dst := none, op := Op.store 26 (Operand.tmp 0) (Operand.tmp 21), type := 0, pos := "law.go:21", after := #[{ on := 0, ground := Ground.data }, { on := 0, ground := Ground.phase }, { on := 1, ground := Ground.textOnly Departure.lateStores }], guard := none }) rfl (fun K hK => ?_) AllReadyH.nil
      go_simp
      refine hK.out _ _ ⟨ld_tab HP2.out.2.1, ld_tab HP2.out.2.2.1⟩ (fun hHeld => ?_)
      clear hK K
      (try simp only [Act.put, List.setIfInBounds_toArray, List.set_cons_zero, List.set_cons_succ])
      refine wpAnyH_ready (rs := [3]) (by kernel_rfl) (by simp) ?_
      refine AllReadyH.cons (o := { dst := none, op := Op.store 26 (Operand.tmp 1) (Operand.tmp 22), type := 0, pos := "law.go:21", after := #[{ on := 1, ground := Ground.data }, { on := 2, ground := Ground.chain }, { on := 0, ground := Ground.phase }, { on := 1, ground := Ground.phase }, { on := 2, ground := Ground.phase }], guard := none }) rfl (fun K hK => ?_) AllReadyH.nil
      go_simp
      refine hK.out _ _ ⟨ld_tab HP3.out.2.2.1, ld_tab HP3.out.2.2.2.1⟩ (fun hHeld => ?_)
      clear hK K
      (try simp only [Act.put, List.setIfInBounds_toArray, List.set_cons_zero, List.set_cons_succ])
      refine wpAnyH_done (by kernel_rfl) ?_ _
      clear s2 s3
      go_wp2
      exact bodyPost_ret (results_cells2 rfl _ _ w.heap.size (w.heap.size + 1) _ _ (0, 0) (0, 0) _ _ _ _ rfl HP3.out.1 Try.undT rfl Try.sizT rfl HP3.out.2.1 Try.undT rfl Try.sizT) rfl ⟨by rw [← HQ.out.1, ← HQ.out.2], HP3.out.2.2.2.2⟩
end Go.Proofs.Ythgoopdekllanaa
