/- The tables of a row that goes on: law's grown. -/
import Derived.Test.YthgoopdekllanaaSmA
import Derived.Test.YthgoopdekllanaaSmB
import Derived.Test.YthgoopdekllanaaTbG
namespace Go.Proofs.Ythgoopdekllanaa
open Go.RowKit Go.Shelf
open SumM

attribute [local go_sem] Oper.semAt_some guard_undef
attribute [local go_sem ↓] zero_tab
attribute [local go_sem ↓] nm_ldT nm_ldA nm_stT

set_option maxRecDepth 100000 in
theorem Try.infoTab : (Try.prog.info? 26).map (fun i => (i.zero, i.size, i.bytes)) = some (some (tabV zeroT), 65, 520) := by kernel_rfl

/-- A slice of one table, made. -/
def bsS (t : TypeId) (n : Nat) (ps : Array (Nat × Value)) : Sem Value := Instr.buildSlice t n ps
theorem nm_bsT (n : Nat) (ps : Array (Nat × Value)) : Instr.buildSlice 57 n ps = bsS 57 n ps := rfl
set_option maxRecDepth 100000 in
theorem bs_tab (T : Nat → Int) (w : World) : (bsS 57 1 #[(0, tabV T)]).run Try.prog w = .ok (.slice (some ⟨w.heap.size, 0, none⟩) 1 1) (w.alloc (.cells (numL 65 T).toArray 26)) := by kernel_rfl
attribute [local go_sem ↓] nm_bsT
attribute [local go_sem] bs_tab

/-- One of the tables, loaded out of a slice. -/
theorem ld_nth {B b off : Nat} {w : World} {all : List (Nat → Int)} (h : SRow (numL 65) 65 B w (some ⟨b, off, none⟩) all) (k : Nat) (hk : k < all.length) : (ldS 26 (.pointer (some ⟨b, off + k * 65, none⟩))).run Try.prog w = .ok (tabV (nth all k)) w := by
  refine run_loadAt_mid w b (off + k * 65) _ _ _ ?_ Try.undT rfl (by rw [numL_len]; exact Try.sizT)
  obtain ⟨b', off', e, _, hc⟩ := h (by omega)
  injection e with e
  injection e with e1 e2
  subst e1 e2
  intro j v hv
  refine hc k hk j v ?_
  rwa [show nth all k = all[k] by unfold nth; rw [List.getElem?_eq_getElem hk]; rfl] at hv
theorem modN (x : Int) (n : Nat) (hn : 1 ≤ n) (hb : n ≤ 1000000000) : ∃ j : Nat, j < n ∧ (wrap64 (x.tmod (n : Int) + (n : Int))).tmod (n : Int) = (j : Int) := by
  obtain ⟨m, j, h1, h2, h3, ⟨h4, h5⟩, hj⟩ := at_mod x n hn hb
  refine ⟨j, hj, ?_⟩
  rw [h1, show wrap64 (m + (n : Int)) = m + (n : Int) by unfold wrap64; omega, Int.tmod_eq_emod_of_nonneg h4]
  exact h5
theorem mod16 (x : Int) : ∃ j : Nat, j < 16 ∧ (wrap64 (x.tmod 16 + 16)).tmod 16 = (j : Int) := modN x 16 (by omega) (by omega)
/-- While tables come: where all lies. -/
structure GrI (w : World) (m : Nat) (T : Nat → Int) (v : Value) (all : List (Nat → Int)) (W : World) : Prop where
  bm : w.heap.size ≤ m
  lo : Below w.heap.size w W
  tb : NB m 26 65 T W
  ow : W.ownsRow (m + 1) 26 65 v all.length (flatS (numL 65) all)
  ch : Ch all
  last : nth all (all.length - 1) = T
theorem GrI.below {w : World} {m : Nat} {T : Nat → Int} {v : Value} {all : List (Nat → Int)} {W W' : World} (h : GrI w m T v all W) (k : Below W.heap.size W W') : GrI w m T v all W' :=
  ⟨h.bm, h.lo.trans (k.mono h.lo.size), bb h.tb k, ownS_below h.ow k, h.ch, h.last⟩
theorem flat_one (T : Nat → Int) : flatS (numL 65) [T] = numL 65 T := by simp [flatS]
theorem newT_cells (W : World) (T : Nat → Int) (t : TypeId) : ∀ j v, (numL 65 T)[j]? = some v → (W.alloc (.cells (numL 65 T).toArray t)).cell? ((⟨W.heap.size, 0, none⟩ : Addr).add j) = some v := by
  intro j v hv
  rw [addr_add, cell_of_row _ _ _ _ _ _ (heap_alloc_new W _)]
  simpa using hv
theorem gr_start {w W1 : World} {m : Nat} (hm : w.heap.size ≤ m) (LL : Below w.heap.size w W1) (bT : NB m 26 65 newT W1) : GrI w m newT (.slice (some ⟨W1.heap.size, 0, none⟩) 1 1) [newT] (W1.alloc (.cells (numL 65 newT).toArray 26)) :=
  ⟨hm, LL.alloc LL.size _, blkN bT _, ⟨by rw [flat_one, numL_len]; rfl, .inr ⟨W1.heap.size, 1, _, rfl, nb_lt bT, heap_alloc_new W1 _, Nat.le_refl _, by unfold maxLen; omega, by simp [numL_len], by
    rw [flat_one]
    exact List.take_of_length_le (by simp [numL_len])⟩⟩, ch_one, rfl⟩
theorem grown_set (m : Nat) (S : Nat → Int) (W : World) : W.grownBy (W.setCells m 0 (numL 65 S)) (some m) := by
  have B := below_setCells m (Nat.le_refl m) (numL 65 S) 0 W W (Below.refl m W)
  exact ⟨B.os, B.tape, B.output, B.size, fun k _ hk => nb_other (fun e => hk (by rw [e])) _ _ _⟩
theorem GrI.put {w : World} {m : Nat} {T : Nat → Int} {v : Value} {all : List (Nat → Int)} {W : World} (h : GrI w m T v all W) (S : Nat → Int) : (W.setCells m 0 (numL 65 S)).ownsRow (m + 1) 26 65 v all.length (flatS (numL 65) all) :=
  h.ow.kept (grown_set m S W) (.inr fun e => by have := (h.ow.lt m e).1; omega)
theorem GrI.next {w : World} {m : Nat} {T : Nat → Int} {v v9 : Value} {all : List (Nat → Int)} {W W9 : World} {b : Int} {u : Ent} {o : Obj} (h : GrI w m T v all W) (hs : setOk T b u = true) (G : ((W.setCells m 0 (numL 65 (setV T b u))).alloc o).grownBy W9 v.ownBlock)
    (O : W9.ownsRow (m + 1) 26 65 v9 (all.length + 1) (flatS (numL 65) all ++ numL 65 (setV T b u))) : GrI w m (setV T b u) v9 (all ++ [setV T b u]) W9 where
  bm := h.bm
  lo := ((below_setCells m h.bm _ 0 _ _ h.lo).alloc (Nat.le_trans h.bm (by have := (grown_set m (setV T b u) W).size; have := nb_lt h.tb; omega)) o).grown G (by have := (grown_set m (setV T b u) W).size; have := nb_lt h.tb; have := h.bm; simp; omega) (fun j hj => Nat.le_trans (Nat.le_succ_of_le h.bm) (h.ow.lt j hj).1)
  tb := (G.block m (by have := (grown_set m (setV T b u) W).size; have := nb_lt h.tb; simp; omega) (fun e => by have := (h.ow.lt m e.symm).1; omega)).trans (blkN (nb_full h.tb (setV T b u)) o)
  ow := by
    have e : flatS (numL 65) (all ++ [setV T b u]) = flatS (numL 65) all ++ numL 65 (setV T b u) := by rw [flatS_append, flat_one]
    rw [e, List.length_append]
    exact O
  ch := ch_snoc h.ch h.last hs
  last := by
    rw [List.length_append]
    exact nth_last _
set_option maxRecDepth 100000 in
set_option maxHeartbeats 8000000 in
theorem grown_any (a : Option Addr) (len cap : Nat) (us : List Chg) (w : World) (hu : IsCRow w a len cap us) (hlen : len ≤ 30) :
    Calls Try.prog 39 #[.slice a len cap] w fun e w' => ∃ v all, e = .returned v ∧ Ch all ∧ all.length ≤ 31 ∧ w'.ownsRow w.heap.size 26 65 v all.length (flatS (numL 65) all) ∧ Below w.heap.size w w' := by
  obtain ⟨i0, hi, hz0, hz1, hz2⟩ := info_parts Try.infoTab
  go_enter Try.func39, Try.ntmps39
  go_wp2_with fail
  refine (r10New_any w).mono ?_
  rintro e w1 ⟨rfl, m1⟩
  have L0 := m1
  have bT := heap_alloc_new w1 (.cells (numL 65 zeroT).toArray 26)
  have s0 := st_new w1 newT
  obtain ⟨bT, L1⟩ := boxT_new w1 newT
  have LL := L0.trans (L1.mono L0.size)
  have hm : w.heap.size ≤ w1.heap.size := L0.size
  clear L0 L1 m1
  go_upto_region 2 with fail
  clear s0
  generalize (w1.alloc (.cells (numL 65 zeroT).toArray 26)).setCells w1.heap.size 0 (numL 65 newT) = W1 at *
  generalize w1.heap.size = m at *
  have l1 := ld_tab bT
  have HI := Lib.hid (gr_start hm LL bT)
  have hmW : m < W1.heap.size := nb_lt bT
  have HR := Lib.hid hu
  clear LL bT hu
  go_wp2
  clear l1
  go_loopw [4, 5] (fun v i wr => ∃ k : Nat, k ≤ len ∧ i = .int .i64 (k : Nat) ∧ ∃ T all, all.length ≤ k + 1 ∧ GrI w m T v all wr) (fun _ i _ => len - (intOf i).toNat)
  case atStart => exact ⟨0, by omega, rfl, _, _, by simp, HI.out⟩
  case round =>
    obtain ⟨k, hk, rfl, T, all, hal, hI⟩ := hrel
    clear HI
    by_cases hlt : k < len
    · have hkl : (k : Int) < (len : Int) := by omega
      have hk2 : k < us.length := by rw [HR.out.hl]; exact hlt
      obtain ⟨b, off, rfl, hb⟩ : ∃ b off, a = some ⟨b, off, none⟩ ∧ b < w.heap.size := by
        obtain ⟨b, off, e, hb, _⟩ := HR.out.row (by omega)
        exact ⟨b, off, e, hb⟩
      have hr := HR.out.row.below hI.lo
      obtain ⟨q0, q1, q2⟩ := chgC_at hr k hk2
      have HC := Lib.hid (fun W (mm : Below wr.heap.size wr W) => chgC_at (HR.out.row.below (hI.below mm).lo) k hk2)
      generalize us[k]?.getD (0, 0, 0) = u at *
      obtain ⟨u0, u1, u2⟩ := u
      obtain ⟨j, hj, ej⟩ := mod16 u0
      have hj1 : (j : Int) < 16 := by omega
      simp only at q0 q1 q2
      have hp := hI.ch.pos
      have hrt : rgT T = true := by
        have := hI.ch.right (all.length - 1) (by omega)
        rwa [hI.last] at this
      have hgen := (rgt_iff.1 ((rgT_iff.1 hrt).2 j hj)).2.2.1
      obtain ⟨y, hy⟩ : ∃ y, (rowT T j).2.2.1 + 1 = y := ⟨_, rfl⟩
      have KS := Lib.hid (fun W => r10Set_any T (j : Int) u1 u2 y 0 W)
      have HT := Lib.hid (fun W (h : NB m 26 65 T W) => And.intro (ld_tab h) (nb_cell h (o := 1 + j * 4 + 2) (by omega)))
      have wy : wrap64 (T (1 + j * 4 + 2) + 1) = y := by
        rw [← hy]
        have h := hgen
        simp only [rowT] at h ⊢
        unfold wrap64
        omega
      have wy2 : IntKind.i64.wrap (T (1 + j * 4 + 2) + 1) = y := by
        rw [← hy]
        have h := hgen
        simp only [rowT] at h ⊢
        exact IntWalk.i64_in _ (by omega)
      have HY := Lib.hid (And.intro hy hrt)
      clear hy hrt hgen hp
      have HMW := Lib.hid (nb_lt hI.tb)
      have HI := Lib.hid hI
      have CSS := Lib.hid (fun W (mm : Below wr.heap.size wr W) => show (ldS 26 (.pointer (some ⟨m, 0, none⟩))).run Try.prog W = .ok (tabV T) W ∧ W.cell? ⟨m, 1 + j * 4 + 2, none⟩ = some (.int .i64 (T (1 + j * 4 + 2))) ∧ W.cell? ⟨b, off + k * 3 + 1, none⟩ = some (.int .i64 u1) ∧ W.cell? ⟨b, off + k * 3 + 2, none⟩ = some (.int .i64 u2) from
        ⟨(HT.out W (HI.out.below mm).tb).1, (HT.out W (HI.out.below mm).tb).2, (HC.out W mm).2.1, (HC.out W mm).2.2⟩)
      clear hI hr HC HT
      go_upto_region 7 with fail
      clear q0 q1 q2 ej
      go_cut [7, 8] from 12 to 55 (fun p q wx => ∃ x, p = .pointer (some ⟨x, 0, none⟩) ∧ q = .int .i64 (setN T (j : Int) (u1, u2, y, 0)) ∧ NB x 26 65 (setV T (j : Int) (u1, u2, y, 0)) wx ∧ wr.heap.size ≤ x ∧ Below wr.heap.size wr wx)
      case first =>
        have nc := (Below.refl wr.heap.size wr).drew
        generalize setN T (j : Int) (u1, u2, y, 0) = sN at *
        generalize setV T (j : Int) (u1, u2, y, 0) = sV at *
        generalize T (1 + j * 4 + 2) = tg at *
        refine wp_region_held_drew (S := fun W => (ldS 26 (.pointer (some ⟨m, 0, none⟩))).run Try.prog W = .ok (tabV T) W ∧ W.cell? ⟨m, 1 + j * 4 + 2, none⟩ = some (.int .i64 tg) ∧ W.cell? ⟨b, off + k * 3 + 1, none⟩ = some (.int .i64 u1) ∧ W.cell? ⟨b, off + k * 3 + 2, none⟩ = some (.int .i64 u2)) (by kernel_rfl) (CSS.out _ nc) (fun hHeld => ?_)
        generalize wr.drew = V0 at *
        refine wpAnyH_take (i := 0) (oi := { dst := some 27, op := Op.load 26 (Operand.tmp 3), type := 26, pos := "law.go:64", after := #[], guard := none }) (v := ?_) rfl (by kernel_rfl) (by kernel_rfl) (by kernel_rfl) (fun _ _ _ h => h) (Or.inl ⟨by rfl, ?_⟩) (by assumption) ?_
        rotate_left
        · intro w hSw
          (try dsimp only at hSw)
          first | (go_simp; done) | (go_simp; with_reducible rfl)
        (try simp only [Act.put, List.setIfInBounds_toArray, List.set_cons_zero, List.set_cons_succ])
        refine wpAnyH_take (i := 1) (oi := { dst := some 28, op := Op.move (Operand.tmp 6), type := 3, pos := "law.go:64", after := #[], guard := none }) (v := ?_) rfl (by kernel_rfl) (by kernel_rfl) (by kernel_rfl) (fun _ _ _ h => h) (Or.inl ⟨by rfl, ?_⟩) (by assumption) ?_
        rotate_left
        · intro w hSw
          (try dsimp only at hSw)
          first | (go_simp; done) | (go_simp; with_reducible rfl)
        (try simp only [Act.put, List.setIfInBounds_toArray, List.set_cons_zero, List.set_cons_succ])
        refine wpAnyH_take (i := 2) (oi := { dst := some 29, op := Op.move (Operand.tmp 0), type := 55, pos := "law.go:64", after := #[], guard := none }) (v := ?_) rfl (by kernel_rfl) (by kernel_rfl) (by kernel_rfl) (fun _ _ _ h => h) (Or.inl ⟨by rfl, ?_⟩) (by assumption) ?_
        rotate_left
        · intro w hSw
          (try dsimp only at hSw)
          first | (go_simp; done) | (go_simp; with_reducible rfl)
        (try simp only [Act.put, List.setIfInBounds_toArray, List.set_cons_zero, List.set_cons_succ])
        refine wpAnyH_take (i := 3) (oi := { dst := some 30, op := Op.move (Operand.tmp 5), type := 3, pos := "law.go:64", after := #[], guard := none }) (v := ?_) rfl (by kernel_rfl) (by kernel_rfl) (by kernel_rfl) (fun _ _ _ h => h) (Or.inl ⟨by rfl, ?_⟩) (by assumption) ?_
        rotate_left
        · intro w hSw
          (try dsimp only at hSw)
          first | (go_simp; done) | (go_simp; with_reducible rfl)
        (try simp only [Act.put, List.setIfInBounds_toArray, List.set_cons_zero, List.set_cons_succ])
        refine wpAnyH_take (i := 4) (oi := { dst := some 31, op := Op.indexAddr 55 (Operand.tmp 29) (Operand.tmp 30), type := 0, pos := "law.go:64", after := #[{ on := 2, ground := Ground.data }, { on := 3, ground := Ground.data }], guard := none }) (v := ?_) rfl (by kernel_rfl) (by kernel_rfl) (by kernel_rfl) (fun _ _ _ h => h) (Or.inl ⟨by rfl, ?_⟩) (by assumption) ?_
        rotate_left
        · intro w hSw
          (try dsimp only at hSw)
          first | (go_simp; done) | (go_simp; with_reducible rfl)
        (try simp only [Act.put, List.setIfInBounds_toArray, List.set_cons_zero, List.set_cons_succ])
        refine wpAnyH_take (i := 5) (oi := { dst := some 32, op := Op.fieldAddr 98 (Operand.tmp 31) 1, type := 0, pos := "law.go:64", after := #[{ on := 4, ground := Ground.data }], guard := none }) (v := ?_) rfl (by kernel_rfl) (by kernel_rfl) (by kernel_rfl) (fun _ _ _ h => h) (Or.inl ⟨by rfl, ?_⟩) (by assumption) ?_
        rotate_left
        · intro w hSw
          (try dsimp only at hSw)
          first | (go_simp; done) | (go_simp; with_reducible rfl)
        (try simp only [Act.put, List.setIfInBounds_toArray, List.set_cons_zero, List.set_cons_succ])
        refine wpAnyH_take (i := 6) (oi := { dst := some 33, op := Op.load 3 (Operand.tmp 32), type := 3, pos := "law.go:64", after := #[{ on := 5, ground := Ground.data }], guard := none }) (v := ?_) rfl (by kernel_rfl) (by kernel_rfl) (by kernel_rfl) (fun _ _ _ h => h) (Or.inl ⟨by rfl, ?_⟩) (by assumption) ?_
        rotate_left
        · intro w hSw
          (try dsimp only at hSw)
          first | (go_simp; done) | (go_simp; with_reducible rfl)
        (try simp only [Act.put, List.setIfInBounds_toArray, List.set_cons_zero, List.set_cons_succ])
        refine wpAnyH_take (i := 7) (oi := { dst := some 34, op := Op.move (Operand.tmp 0), type := 55, pos := "law.go:64", after := #[], guard := none }) (v := ?_) rfl (by kernel_rfl) (by kernel_rfl) (by kernel_rfl) (fun _ _ _ h => h) (Or.inl ⟨by rfl, ?_⟩) (by assumption) ?_
        rotate_left
        · intro w hSw
          (try dsimp only at hSw)
          first | (go_simp; done) | (go_simp; with_reducible rfl)
        (try simp only [Act.put, List.setIfInBounds_toArray, List.set_cons_zero, List.set_cons_succ])
        refine wpAnyH_take (i := 8) (oi := { dst := some 35, op := Op.move (Operand.tmp 5), type := 3, pos := "law.go:64", after := #[], guard := none }) (v := ?_) rfl (by kernel_rfl) (by kernel_rfl) (by kernel_rfl) (fun _ _ _ h => h) (Or.inl ⟨by rfl, ?_⟩) (by assumption) ?_
        rotate_left
        · intro w hSw
          (try dsimp only at hSw)
          first | (go_simp; done) | (go_simp; with_reducible rfl)
        (try simp only [Act.put, List.setIfInBounds_toArray, List.set_cons_zero, List.set_cons_succ])
        refine wpAnyH_take (i := 9) (oi := { dst := some 36, op := Op.indexAddr 55 (Operand.tmp 34) (Operand.tmp 35), type := 0, pos := "law.go:64", after := #[{ on := 7, ground := Ground.data }, { on := 8, ground := Ground.data }], guard := none }) (v := ?_) rfl (by kernel_rfl) (by kernel_rfl) (by kernel_rfl) (fun _ _ _ h => h) (Or.inl ⟨by rfl, ?_⟩) (by assumption) ?_
        rotate_left
        · intro w hSw
          (try dsimp only at hSw)
          first | (go_simp; done) | (go_simp; with_reducible rfl)
        (try simp only [Act.put, List.setIfInBounds_toArray, List.set_cons_zero, List.set_cons_succ])
        refine wpAnyH_take (i := 10) (oi := { dst := some 37, op := Op.fieldAddr 98 (Operand.tmp 36) 2, type := 0, pos := "law.go:64", after := #[{ on := 9, ground := Ground.data }], guard := none }) (v := ?_) rfl (by kernel_rfl) (by kernel_rfl) (by kernel_rfl) (fun _ _ _ h => h) (Or.inl ⟨by rfl, ?_⟩) (by assumption) ?_
        rotate_left
        · intro w hSw
          (try dsimp only at hSw)
          first | (go_simp; done) | (go_simp; with_reducible rfl)
        (try simp only [Act.put, List.setIfInBounds_toArray, List.set_cons_zero, List.set_cons_succ])
        refine wpAnyH_take (i := 11) (oi := { dst := some 38, op := Op.load 3 (Operand.tmp 37), type := 3, pos := "law.go:64", after := #[{ on := 10, ground := Ground.data }], guard := none }) (v := ?_) rfl (by kernel_rfl) (by kernel_rfl) (by kernel_rfl) (fun _ _ _ h => h) (Or.inl ⟨by rfl, ?_⟩) (by assumption) ?_
        rotate_left
        · intro w hSw
          (try dsimp only at hSw)
          first | (go_simp; done) | (go_simp; with_reducible rfl)
        (try simp only [Act.put, List.setIfInBounds_toArray, List.set_cons_zero, List.set_cons_succ])
        refine wpAnyH_take (i := 12) (oi := { dst := some 39, op := Op.move (Operand.tmp 6), type := 3, pos := "law.go:64", after := #[], guard := none }) (v := ?_) rfl (by kernel_rfl) (by kernel_rfl) (by kernel_rfl) (fun _ _ _ h => h) (Or.inl ⟨by rfl, ?_⟩) (by assumption) ?_
        rotate_left
        · intro w hSw
          (try dsimp only at hSw)
          first | (go_simp; done) | (go_simp; with_reducible rfl)
        (try simp only [Act.put, List.setIfInBounds_toArray, List.set_cons_zero, List.set_cons_succ])
        refine wpAnyH_take (i := 13) (oi := { dst := some 40, op := Op.fieldAddr 26 (Operand.tmp 3) 1, type := 0, pos := "law.go:64", after := #[], guard := none }) (v := ?_) rfl (by kernel_rfl) (by kernel_rfl) (by kernel_rfl) (fun _ _ _ h => h) (Or.inl ⟨by rfl, ?_⟩) (by assumption) ?_
        rotate_left
        · intro w hSw
          (try dsimp only at hSw)
          first | (go_simp; done) | (go_simp; with_reducible rfl)
        (try simp only [Act.put, List.setIfInBounds_toArray, List.set_cons_zero, List.set_cons_succ])
        refine wpAnyH_take (i := 14) (oi := { dst := some 41, op := Op.indexAddr 24 (Operand.tmp 40) (Operand.tmp 39), type := 0, pos := "law.go:64", after := #[{ on := 13, ground := Ground.data }, { on := 12, ground := Ground.data }], guard := none }) (v := ?_) rfl (by kernel_rfl) (by kernel_rfl) (by kernel_rfl) (fun _ _ _ h => h) (Or.inl ⟨by rfl, ?_⟩) (by assumption) ?_
        rotate_left
        · intro w hSw
          (try dsimp only at hSw)
          first | (go_simp; done) | (go_simp; with_reducible rfl)
        (try simp only [Act.put, List.setIfInBounds_toArray, List.set_cons_zero, List.set_cons_succ])
        refine wpAnyH_take (i := 15) (oi := { dst := some 42, op := Op.fieldAddr 23 (Operand.tmp 41) 2, type := 0, pos := "law.go:64", after := #[{ on := 14, ground := Ground.data }], guard := none }) (v := ?_) rfl (by kernel_rfl) (by kernel_rfl) (by kernel_rfl) (fun _ _ _ h => h) (Or.inl ⟨by rfl, ?_⟩) (by assumption) ?_
        rotate_left
        · intro w hSw
          (try dsimp only at hSw)
          first | (go_simp; done) | (go_simp; with_reducible rfl)
        (try simp only [Act.put, List.setIfInBounds_toArray, List.set_cons_zero, List.set_cons_succ])
        refine wpAnyH_take (i := 16) (oi := { dst := some 43, op := Op.load 3 (Operand.tmp 42), type := 3, pos := "law.go:64", after := #[{ on := 15, ground := Ground.data }], guard := none }) (v := ?_) rfl (by kernel_rfl) (by kernel_rfl) (by kernel_rfl) (fun _ _ _ h => h) (Or.inl ⟨by rfl, ?_⟩) (by assumption) ?_
        rotate_left
        · intro w hSw
          (try dsimp only at hSw)
          first | (go_simp; done) | (go_simp; with_reducible rfl)
        (try simp only [Act.put, List.setIfInBounds_toArray, List.set_cons_zero, List.set_cons_succ])
        refine wpAnyH_take (i := 17) (oi := { dst := some 44, op := Op.binOp BinOp.add 3 (Operand.tmp 43) (Operand.const (Value.int IntKind.i64 1)) 3, type := 3, pos := "law.go:64", after := #[{ on := 16, ground := Ground.data }], guard := none }) (v := ?_) rfl (by kernel_rfl) (by kernel_rfl) (by kernel_rfl) (fun _ _ _ h => h) (Or.inl ⟨by rfl, ?_⟩) (by assumption) ?_
        rotate_left
        · intro w hSw
          (try dsimp only at hSw)
          first | (go_simp; done) | (go_simp; with_reducible rfl)
        (try simp only [Act.put, List.setIfInBounds_toArray, List.set_cons_zero, List.set_cons_succ])
        refine wpAnyH_take (i := 18) (oi := { dst := some 45, op := Op.build 23 #[(0, Operand.tmp 33), (1, Operand.tmp 38), (2, Operand.tmp 44)], type := 23, pos := "law.go:64", after := #[{ on := 6, ground := Ground.data }, { on := 11, ground := Ground.data }, { on := 17, ground := Ground.data }], guard := none }) (v := ?_) rfl (by kernel_rfl) (by kernel_rfl) (by kernel_rfl) (fun _ _ _ h => h) (Or.inl ⟨by rfl, ?_⟩) (by assumption) ?_
        rotate_left
        · intro w hSw
          (try dsimp only at hSw)
          first | (go_simp; done) | (go_simp; with_reducible rfl)
        (try simp only [Act.put, List.setIfInBounds_toArray, List.set_cons_zero, List.set_cons_succ])
        refine wpAnyH_ready (rs := [19, 23]) (by kernel_rfl) (by simp) ?_
        refine AllReadyH.cons (o := { dst := some 46, op := Op.call { callee := Callee.value (Operand.func 61), args := #[Operand.tmp 27, Operand.tmp 28, Operand.tmp 45], argTypes := #[26, 3, 23] }, type := 99, pos := "law.go:64", after := #[{ on := 0, ground := Ground.data }, { on := 1, ground := Ground.data }, { on := 18, ground := Ground.data }], guard := none }) rfl (fun K hK => ?_) (AllReadyH.cons (o := { dst := some 7, op := Op.alloc 26, type := 0, pos := "law.go:64", after := #[], guard := none }) rfl (fun K hK => ?_) AllReadyH.nil)
        · skip
          go_simp
          refine (KS.out V0).mono ?_
          rintro e V1 ⟨rfl, jx⟩
          replace nc := nc.trans (jx.mono nc.size)
          clear jx
          clear hHeld
          refine hK.out _ _ (CSS.out _ nc) (fun hHeld => ?_)
          clear hK K
          (try simp only [Act.put, List.setIfInBounds_toArray, List.set_cons_zero, List.set_cons_succ])
          refine wpAnyH_take (i := 20) (oi := { dst := some 26, op := Op.move (Operand.tmp 46), type := 99, pos := "law.go:64", after := #[{ on := 19, ground := Ground.data }], guard := none }) (v := ?_) rfl (by kernel_rfl) (by kernel_rfl) (by kernel_rfl) (fun _ _ _ h => h) (Or.inl ⟨by rfl, ?_⟩) (by assumption) ?_
          rotate_left
          · intro w hSw
            (try dsimp only at hSw)
            first | (go_simp; done) | (go_simp; with_reducible rfl)
          (try simp only [Act.put, List.setIfInBounds_toArray, List.set_cons_zero, List.set_cons_succ])
          refine wpAnyH_take (i := 21) (oi := { dst := some 47, op := Op.extract (Operand.tmp 26) 0, type := 26, pos := "law.go:64", after := #[{ on := 20, ground := Ground.data }], guard := none }) (v := ?_) rfl (by kernel_rfl) (by kernel_rfl) (by kernel_rfl) (fun _ _ _ h => h) (Or.inl ⟨by rfl, ?_⟩) (by assumption) ?_
          rotate_left
          · intro w hSw
            (try dsimp only at hSw)
            first | (go_simp; done) | (go_simp; with_reducible rfl)
          (try simp only [Act.put, List.setIfInBounds_toArray, List.set_cons_zero, List.set_cons_succ])
          refine wpAnyH_take (i := 22) (oi := { dst := some 48, op := Op.extract (Operand.tmp 26) 1, type := 33, pos := "law.go:64", after := #[{ on := 20, ground := Ground.data }, { on := 24, ground := Ground.gcOnly Departure.lateStores }], guard := none }) (v := ?_) rfl (by kernel_rfl) (by kernel_rfl) (by kernel_rfl) (fun _ _ _ h => h) (Or.inl ⟨by rfl, ?_⟩) (by assumption) ?_
          rotate_left
          · intro w hSw
            (try dsimp only at hSw)
            first | (go_simp; done) | (go_simp; with_reducible rfl)
          (try simp only [Act.put, List.setIfInBounds_toArray, List.set_cons_zero, List.set_cons_succ])
          refine wpAnyH_ready (rs := [23]) (by kernel_rfl) (by simp) ?_
          refine AllReadyH.cons (o := { dst := some 7, op := Op.alloc 26, type := 0, pos := "law.go:64", after := #[], guard := none }) rfl (fun K hK => ?_) AllReadyH.nil
          go_simp
          have hA := heap_alloc_new V1 (.cells (numL 65 zeroT).toArray 26)
          have hAb := nc.size
          replace nc := nc.alloc nc.size (.cells (numL 65 zeroT).toArray 26)
          clear hHeld
          refine hK.out _ _ (CSS.out _ nc) (fun hHeld => ?_)
          clear hK K
          (try simp only [Act.put, List.setIfInBounds_toArray, List.set_cons_zero, List.set_cons_succ])
          generalize V1.alloc (.cells (numL 65 zeroT).toArray 26) = V2 at *
          generalize V1.heap.size = bA at *
          have s9 := st_tab hA sV
          have nc9 := below_setCells bA hAb (numL 65 sV) 0 _ _ nc
          have HA9 := Lib.hid (And.intro (nb_full hA sV) hAb)
          refine wpAnyH_ready (rs := [24]) (by kernel_rfl) (by simp) ?_
          refine AllReadyH.cons (o := { dst := none, op := Op.store 26 (Operand.tmp 7) (Operand.tmp 47), type := 0, pos := "law.go:64", after := #[{ on := 23, ground := Ground.data }, { on := 21, ground := Ground.data }, { on := 19, ground := Ground.chain }, { on := 0, ground := Ground.phase }, { on := 1, ground := Ground.phase }, { on := 2, ground := Ground.phase }, { on := 3, ground := Ground.phase }, { on := 4, ground := Ground.phase }, { on := 5, ground := Ground.phase }, { on := 6, ground := Ground.phase }, { on := 7, ground := Ground.phase }, { on := 8, ground := Ground.phase }, { on := 9, ground := Ground.phase }, { on := 10, ground := Ground.phase }, { on := 11, ground := Ground.phase }, { on := 12, ground := Ground.phase }, { on := 13, ground := Ground.phase }, { on := 14, ground := Ground.phase }, { on := 15, ground := Ground.phase }, { on := 16, ground := Ground.phase }, { on := 17, ground := Ground.phase }, { on := 18, ground := Ground.phase }, { on := 19, ground := Ground.phase }, { on := 20, ground := Ground.phase }, { on := 21, ground := Ground.phase }, { on := 22, ground := Ground.textOnly Departure.lateStores }, { on := 23, ground := Ground.phase }], guard := none }) rfl (fun K hK => ?_) AllReadyH.nil
          go_simp
          clear hHeld
          refine hK.out _ _ (CSS.out _ nc9) (fun hHeld => ?_)
          clear hK K
          (try simp only [Act.put, List.setIfInBounds_toArray, List.set_cons_zero, List.set_cons_succ])
          refine wpAnyH_take (i := 25) (oi := { dst := some 8, op := Op.assign (Operand.tmp 48), type := 33, pos := "law.go:64", after := #[{ on := 22, ground := Ground.data }, { on := 24, ground := Ground.chain }, { on := 0, ground := Ground.phase }, { on := 1, ground := Ground.phase }, { on := 2, ground := Ground.phase }, { on := 3, ground := Ground.phase }, { on := 4, ground := Ground.phase }, { on := 5, ground := Ground.phase }, { on := 6, ground := Ground.phase }, { on := 7, ground := Ground.phase }, { on := 8, ground := Ground.phase }, { on := 9, ground := Ground.phase }, { on := 10, ground := Ground.phase }, { on := 11, ground := Ground.phase }, { on := 12, ground := Ground.phase }, { on := 13, ground := Ground.phase }, { on := 14, ground := Ground.phase }, { on := 15, ground := Ground.phase }, { on := 16, ground := Ground.phase }, { on := 17, ground := Ground.phase }, { on := 18, ground := Ground.phase }, { on := 19, ground := Ground.phase }, { on := 20, ground := Ground.phase }, { on := 21, ground := Ground.phase }, { on := 22, ground := Ground.phase }, { on := 23, ground := Ground.phase }, { on := 24, ground := Ground.phase }], guard := none }) (v := ?_) rfl (by kernel_rfl) (by kernel_rfl) (by kernel_rfl) (fun _ _ _ h => h) (Or.inl ⟨by rfl, ?_⟩) (by assumption) ?_
          rotate_left
          · intro w hSw
            (try dsimp only at hSw)
            first | (go_simp; done) | (go_simp; with_reducible rfl)
          (try simp only [Act.put, List.setIfInBounds_toArray, List.set_cons_zero, List.set_cons_succ])
          refine wpAnyH_done (by kernel_rfl) ?_ _
          have HN9 := Lib.hid nc9
          clear nc9 nc hA s9
          go_wp2_with fail
          go_meet
          exact ⟨_, rfl, rfl, HA9.out.1, HA9.out.2, HN9.out⟩
        · skip
          go_simp
          have hA := heap_alloc_new V0 (.cells (numL 65 zeroT).toArray 26)
          have hAb := nc.size
          replace nc := nc.alloc nc.size (.cells (numL 65 zeroT).toArray 26)
          clear hHeld
          refine hK.out _ _ (CSS.out _ nc) (fun hHeld => ?_)
          clear hK K
          (try simp only [Act.put, List.setIfInBounds_toArray, List.set_cons_zero, List.set_cons_succ])
          generalize V0.alloc (.cells (numL 65 zeroT).toArray 26) = V3 at *
          generalize V0.heap.size = bA at *
          refine wpAnyH_ready (rs := [19]) (by kernel_rfl) (by simp) ?_
          refine AllReadyH.cons (o := { dst := some 46, op := Op.call { callee := Callee.value (Operand.func 61), args := #[Operand.tmp 27, Operand.tmp 28, Operand.tmp 45], argTypes := #[26, 3, 23] }, type := 99, pos := "law.go:64", after := #[{ on := 0, ground := Ground.data }, { on := 1, ground := Ground.data }, { on := 18, ground := Ground.data }], guard := none }) rfl (fun K hK => ?_) AllReadyH.nil
          go_simp
          refine (KS.out V3).mono ?_
          rintro e V4 ⟨rfl, jx⟩
          replace hA := bb hA jx
          replace nc := nc.trans (jx.mono nc.size)
          clear jx
          clear hHeld
          refine hK.out _ _ (CSS.out _ nc) (fun hHeld => ?_)
          clear hK K
          (try simp only [Act.put, List.setIfInBounds_toArray, List.set_cons_zero, List.set_cons_succ])
          refine wpAnyH_take (i := 20) (oi := { dst := some 26, op := Op.move (Operand.tmp 46), type := 99, pos := "law.go:64", after := #[{ on := 19, ground := Ground.data }], guard := none }) (v := ?_) rfl (by kernel_rfl) (by kernel_rfl) (by kernel_rfl) (fun _ _ _ h => h) (Or.inl ⟨by rfl, ?_⟩) (by assumption) ?_
          rotate_left
          · intro w hSw
            (try dsimp only at hSw)
            first | (go_simp; done) | (go_simp; with_reducible rfl)
          (try simp only [Act.put, List.setIfInBounds_toArray, List.set_cons_zero, List.set_cons_succ])
          refine wpAnyH_take (i := 21) (oi := { dst := some 47, op := Op.extract (Operand.tmp 26) 0, type := 26, pos := "law.go:64", after := #[{ on := 20, ground := Ground.data }], guard := none }) (v := ?_) rfl (by kernel_rfl) (by kernel_rfl) (by kernel_rfl) (fun _ _ _ h => h) (Or.inl ⟨by rfl, ?_⟩) (by assumption) ?_
          rotate_left
          · intro w hSw
            (try dsimp only at hSw)
            first | (go_simp; done) | (go_simp; with_reducible rfl)
          (try simp only [Act.put, List.setIfInBounds_toArray, List.set_cons_zero, List.set_cons_succ])
          refine wpAnyH_take (i := 22) (oi := { dst := some 48, op := Op.extract (Operand.tmp 26) 1, type := 33, pos := "law.go:64", after := #[{ on := 20, ground := Ground.data }, { on := 24, ground := Ground.gcOnly Departure.lateStores }], guard := none }) (v := ?_) rfl (by kernel_rfl) (by kernel_rfl) (by kernel_rfl) (fun _ _ _ h => h) (Or.inl ⟨by rfl, ?_⟩) (by assumption) ?_
          rotate_left
          · intro w hSw
            (try dsimp only at hSw)
            first | (go_simp; done) | (go_simp; with_reducible rfl)
          (try simp only [Act.put, List.setIfInBounds_toArray, List.set_cons_zero, List.set_cons_succ])
          have s9 := st_tab hA sV
          have nc9 := below_setCells bA hAb (numL 65 sV) 0 _ _ nc
          have HA9 := Lib.hid (And.intro (nb_full hA sV) hAb)
          refine wpAnyH_ready (rs := [24]) (by kernel_rfl) (by simp) ?_
          refine AllReadyH.cons (o := { dst := none, op := Op.store 26 (Operand.tmp 7) (Operand.tmp 47), type := 0, pos := "law.go:64", after := #[{ on := 23, ground := Ground.data }, { on := 21, ground := Ground.data }, { on := 19, ground := Ground.chain }, { on := 0, ground := Ground.phase }, { on := 1, ground := Ground.phase }, { on := 2, ground := Ground.phase }, { on := 3, ground := Ground.phase }, { on := 4, ground := Ground.phase }, { on := 5, ground := Ground.phase }, { on := 6, ground := Ground.phase }, { on := 7, ground := Ground.phase }, { on := 8, ground := Ground.phase }, { on := 9, ground := Ground.phase }, { on := 10, ground := Ground.phase }, { on := 11, ground := Ground.phase }, { on := 12, ground := Ground.phase }, { on := 13, ground := Ground.phase }, { on := 14, ground := Ground.phase }, { on := 15, ground := Ground.phase }, { on := 16, ground := Ground.phase }, { on := 17, ground := Ground.phase }, { on := 18, ground := Ground.phase }, { on := 19, ground := Ground.phase }, { on := 20, ground := Ground.phase }, { on := 21, ground := Ground.phase }, { on := 22, ground := Ground.textOnly Departure.lateStores }, { on := 23, ground := Ground.phase }], guard := none }) rfl (fun K hK => ?_) AllReadyH.nil
          go_simp
          clear hHeld
          refine hK.out _ _ (CSS.out _ nc9) (fun hHeld => ?_)
          clear hK K
          (try simp only [Act.put, List.setIfInBounds_toArray, List.set_cons_zero, List.set_cons_succ])
          refine wpAnyH_take (i := 25) (oi := { dst := some 8, op := Op.assign (Operand.tmp 48), type := 33, pos := "law.go:64", after := #[{ on := 22, ground := Ground.data }, { on := 24, ground := Ground.chain }, { on := 0, ground := Ground.phase }, { on := 1, ground := Ground.phase }, { on := 2, ground := Ground.phase }, { on := 3, ground := Ground.phase }, { on := 4, ground := Ground.phase }, { on := 5, ground := Ground.phase }, { on := 6, ground := Ground.phase }, { on := 7, ground := Ground.phase }, { on := 8, ground := Ground.phase }, { on := 9, ground := Ground.phase }, { on := 10, ground := Ground.phase }, { on := 11, ground := Ground.phase }, { on := 12, ground := Ground.phase }, { on := 13, ground := Ground.phase }, { on := 14, ground := Ground.phase }, { on := 15, ground := Ground.phase }, { on := 16, ground := Ground.phase }, { on := 17, ground := Ground.phase }, { on := 18, ground := Ground.phase }, { on := 19, ground := Ground.phase }, { on := 20, ground := Ground.phase }, { on := 21, ground := Ground.phase }, { on := 22, ground := Ground.phase }, { on := 23, ground := Ground.phase }, { on := 24, ground := Ground.phase }], guard := none }) (v := ?_) rfl (by kernel_rfl) (by kernel_rfl) (by kernel_rfl) (fun _ _ _ h => h) (Or.inl ⟨by rfl, ?_⟩) (by assumption) ?_
          rotate_left
          · intro w hSw
            (try dsimp only at hSw)
            first | (go_simp; done) | (go_simp; with_reducible rfl)
          (try simp only [Act.put, List.setIfInBounds_toArray, List.set_cons_zero, List.set_cons_succ])
          refine wpAnyH_done (by kernel_rfl) ?_ _
          have HN9 := Lib.hid nc9
          clear nc9 nc hA s9
          go_wp2_with fail
          go_meet
          exact ⟨_, rfl, rfl, HA9.out.1, HA9.out.2, HN9.out⟩
      case rest =>
        obtain ⟨x, rfl, rfl, bX, hx, nc⟩ := hcut
        generalize wc = W2 at *
        have HI2 := Lib.hid (HI.out.below nc)
        have hx1 := nb_lt bX
        clear HI CSS KS wy wy2 HY nc
        by_cases HF : setOk T (j : Int) (u1, u2, y, 0) = true
        · have HN := Lib.hid HF
          rw [show setN T (j : Int) (u1, u2, y, 0) = 0 by unfold setN; rw [if_pos HF]]
          have l2 := ld_tab bX
          have s2 := st_tab HI2.out.tb (setV T (j : Int) (u1, u2, y, 0))
          clear HF
          go_upto_region 10 with fail
          clear l2 s2
          have l3 := ld_tab (nb_full HI2.out.tb (setV T (j : Int) (u1, u2, y, 0)))
          have HO := Lib.hid (HI2.out.put (setV T (j : Int) (u1, u2, y, 0)))
          have HGN := Lib.hid (fun o W9 v9 => HI2.out.next (W9 := W9) (v9 := v9) (o := o) HN.out)
          generalize setV T (j : Int) (u1, u2, y, 0) = S at *
          have HSZ := Lib.hid (show m + 1 ≤ (W2.setCells m 0 (numL 65 S)).heap.size by have := (grown_set m S W2).size; have := nb_lt HI2.out.tb; omega)
          generalize W2.setCells m 0 (numL 65 S) = W3 at *
          have hal2 : all.length + 1 ≤ 31 := by omega
          have HAL := Lib.hid hal
          clear hal bX
          generalize hnl : all.length = nl at *
          have HNL := Lib.hid hnl
          clear hnl
          go_wp2_with (at_builtin; refine wpList_append_lies _ rfl (.tmp 52) (.tmp 54) 57 rfl (m + 1) 26 i0 (tabV zeroT) 65 520 Try.underlying57 hi hz0 hz1 hz2 (by simp [Value.cells, numL_len]) (by decide) u4 nl (flatS (numL 65) all) rfl (HO.out.alloc _) ⟨W3.heap.size, 0, none⟩ 1 1 (numL 65 S) rfl (by rw [numL_len]) (newT_cells W3 S _) (numL_one 65 S) (by omega) (by unfold maxLen; omega) (by omega) (by have := HSZ.out; simp; omega) _ rfl ?_; intro g9 cap9 w9 O9 G9 hg9 hlt9)
          exact ⟨⟨k + 1, by omega, by go_num, S, all ++ [S], by have := HNL.out; have := HAL.out; simp; omega, HGN.out _ _ _ G9 O9⟩, by simp [intOf]; omega⟩
        · rw [show setN T (j : Int) (u1, u2, y, 0) = 2 by unfold setN; rw [if_neg HF]]
          have HAL := Lib.hid hal
          clear HF bX hal
          go_wp2
          exact ⟨⟨k + 1, by omega, by go_num, T, all, by have := HAL.out; omega, HI2.out⟩, by simp [intOf]; omega⟩
    · have hk9 : ¬ (k : Int) < (len : Int) := by omega
      have HX := Lib.hid (show wr.ownsRow w.heap.size 26 65 u4 all.length (flatS (numL 65) all) from ownS_base hI.ow (Nat.le_succ_of_le hI.bm))
      have HL := Lib.hid (And.intro hI.ch (And.intro hI.lo (show all.length ≤ 31 by omega)))
      clear hI hal
      go_wp2
      go_ret
      exact ⟨u4, rfl, all, HL.out.1, HL.out.2.2, HX.out, HL.out.2.1⟩
end Go.Proofs.Ythgoopdekllanaa
