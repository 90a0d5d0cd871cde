/- Package hash: Sum, Of, Same; the hasher: made, its table filled, asked. -/
import Derived.Test.YtklmlpnccbmpnaaHsC
import Derived.Test.YtklmlpnccbmpnaaTupJ
import Derived.Test.YtklmlpnccbmpnaaTupOpen
import Derived.Test.YtklmlpnccbmpnaaSync
namespace Go.Proofs.Ytklmlpnccbmpnaa
open Go.RowKit Go.Shelf
open SumM

set_option maxRecDepth 100000 in
set_option maxHeartbeats 1600000 in
theorem hSum_any (ts td tp tq : Int) (H : UNums ts td tp tq) (w : World) : Calls Try.prog 21 #[.agg #[.int .u32 ts, .int .u32 td, .int .u16 tp, .int .u16 tq]] w fun e w' => e = .returned (.int .u8 (sumU ts td tp tq)) ∧ Below w.heap.size w w' := by
  have bU := heap_alloc_new w (.cells #[.int .u32 ts, .int .u32 td, .int .u16 tp, .int .u16 tq] 26)
  have L0 := (Below.refl w.heap.size w).alloc (Nat.le_refl _) (.cells #[.int .u32 ts, .int .u32 td, .int .u16 tp, .int .u16 tq] 26)
  obtain ⟨q0, q1, q2, q3⟩ := tup_cells _ _ _ _ bU
  have HH := Lib.hid H
  clear H
  go_enter Try.func21, Try.ntmps21
  go_upto_region 1 with (fail)
  generalize w.alloc (.cells #[.int .u32 ts, .int .u32 td, .int .u16 tp, .int .u16 tq] 26) = W0 at *
  have K := Lib.hid (tBytes_any ts td tp tq HH.out W0)
  go_wp2_with (fail)
  refine K.out.mono ?_
  intro e w1 h1
  obtain ⟨A, c, rfl, hc, ho, m⟩ := h1
  have K2 := Lib.hid (hGo_any 0 (by decide) A 12 c _ (tupB ts td tp tq) w1 ho rfl (by decide))
  have M1 := Lib.hid (L0.trans (m.mono L0.size))
  clear ho m hc
  go_wp2_with (fail)
  refine K2.out.mono ?_
  rintro e2 w2 ⟨rfl, m2⟩
  go_wp2
  go_ret
  exact ⟨rfl, M1.out.trans (m2.mono M1.out.size)⟩

set_option maxRecDepth 100000 in
set_option maxHeartbeats 1600000 in
theorem hOf_any (ts td tp tq : Int) (H : UNums ts td tp tq) (w : World) : Calls Try.prog 23 #[.agg #[.int .u32 ts, .int .u32 td, .int .u16 tp, .int .u16 tq]] w fun e w' => e = .returned (.int .i64 (ofU ts td tp tq)) ∧ Below w.heap.size w w' := by
  have bU := heap_alloc_new w (.cells #[.int .u32 ts, .int .u32 td, .int .u16 tp, .int .u16 tq] 26)
  have L0 := (Below.refl w.heap.size w).alloc (Nat.le_refl _) (.cells #[.int .u32 ts, .int .u32 td, .int .u16 tp, .int .u16 tq] 26)
  obtain ⟨q0, q1, q2, q3⟩ := tup_cells _ _ _ _ bU
  have HH := Lib.hid H
  clear H
  go_enter Try.func23, Try.ntmps23
  go_upto_region 1 with (fail)
  generalize w.alloc (.cells #[.int .u32 ts, .int .u32 td, .int .u16 tp, .int .u16 tq] 26) = W0 at *
  have K := Lib.hid (hSum_any ts td tp tq HH.out W0)
  go_wp2_with (fail)
  refine K.out.mono ?_
  rintro e w1 ⟨rfl, m⟩
  have M1 := Lib.hid (L0.trans (m.mono L0.size))
  clear m
  have K2 := Lib.hid (hbucket_any _ (sumU_in ts td tp tq) w1)
  go_wp2_with (fail)
  refine K2.out.mono ?_
  rintro e2 w2 ⟨rfl, rfl⟩
  go_wp2
  go_ret
  exact ⟨rfl, M1.out⟩

set_option maxRecDepth 100000 in
set_option maxHeartbeats 1600000 in
theorem hSame_any (ts td tp tq : Int) (ts' td' tp' tq' : Int) (H : UNums ts td tp tq) (H' : UNums ts' td' tp' tq') (w : World) :
    Calls Try.prog 24 #[.agg #[.int .u32 ts, .int .u32 td, .int .u16 tp, .int .u16 tq], .agg #[.int .u32 ts', .int .u32 td', .int .u16 tp', .int .u16 tq']] w fun e w' => e = .returned (.bool (ofU ts td tp tq == ofU ts' td' tp' tq')) ∧ Below w.heap.size w w' := by
  have bO := heap_alloc_new (w.alloc (.cells #[.int .u32 ts, .int .u32 td, .int .u16 tp, .int .u16 tq] 26)) (.cells #[.int .u32 ts', .int .u32 td', .int .u16 tp', .int .u16 tq'] 26)
  rw [World.size_alloc] at bO
  have bH := (Below.heap_alloc (w.alloc (.cells #[.int .u32 ts, .int .u32 td, .int .u16 tp, .int .u16 tq] 26)) (.cells #[.int .u32 ts', .int .u32 td', .int .u16 tp', .int .u16 tq'] 26) w.heap.size (by simp)).trans (heap_alloc_new w (.cells #[.int .u32 ts, .int .u32 td, .int .u16 tp, .int .u16 tq] 26))
  have L0 := ((Below.refl w.heap.size w).alloc (Nat.le_refl _) (.cells #[.int .u32 ts, .int .u32 td, .int .u16 tp, .int .u16 tq] 26)).alloc (by simp) (.cells #[.int .u32 ts', .int .u32 td', .int .u16 tp', .int .u16 tq'] 26)
  have HH := Lib.hid H
  have HH' := Lib.hid H'
  clear H H'
  obtain ⟨q0, q1, q2, q3⟩ := tup_cells _ _ _ _ bH
  obtain ⟨z0, z1, z2, z3⟩ := tup_cells _ _ _ _ bO
  go_enter Try.func24, Try.ntmps24
  go_upto_region 1 with (fail)
  generalize (w.alloc (.cells #[.int .u32 ts, .int .u32 td, .int .u16 tp, .int .u16 tq] 26)).alloc (.cells #[.int .u32 ts', .int .u32 td', .int .u16 tp', .int .u16 tq'] 26) = W0 at *
  have CS := Lib.hid (fun W (m : Below W0.heap.size W0 W) => And.intro (tup_cells _ _ _ _ ((m.block _ (Array.getElem?_eq_some_iff.1 bH).1).trans bH)) (tup_cells _ _ _ _ ((m.block _ (Array.getElem?_eq_some_iff.1 bO).1).trans bO)))
  have CT := Lib.hid (fun W (m : Below W0.heap.size W0 W) => show W.cell? ⟨w.heap.size, 0, none⟩ = some (.int .u32 ts) ∧ W.cell? ⟨w.heap.size, 1, none⟩ = some (.int .u32 td) ∧ W.cell? ⟨w.heap.size, 2, none⟩ = some (.int .u16 tp) ∧ W.cell? ⟨w.heap.size, 3, none⟩ = some (.int .u16 tq) ∧ W.cell? ⟨w.heap.size + 1, 0, none⟩ = some (.int .u32 ts') ∧ W.cell? ⟨w.heap.size + 1, 1, none⟩ = some (.int .u32 td') ∧ W.cell? ⟨w.heap.size + 1, 2, none⟩ = some (.int .u16 tp') ∧ W.cell? ⟨w.heap.size + 1, 3, none⟩ = some (.int .u16 tq') from
    ⟨(CS.out W m).1.1, (CS.out W m).1.2.1, (CS.out W m).1.2.2.1, (CS.out W m).1.2.2.2, (CS.out W m).2.1, (CS.out W m).2.2.1, (CS.out W m).2.2.2.1, (CS.out W m).2.2.2.2⟩)
  have n0 := (Below.refl W0.heap.size W0).drew
  clear bH bO q0 q1 q2 q3 z0 z1 z2 z3 CS
  go_region_held3 (fun W => W.cell? ⟨w.heap.size, 0, none⟩ = some (.int .u32 ts) ∧ W.cell? ⟨w.heap.size, 1, none⟩ = some (.int .u32 td) ∧ W.cell? ⟨w.heap.size, 2, none⟩ = some (.int .u16 tp) ∧ W.cell? ⟨w.heap.size, 3, none⟩ = some (.int .u16 tq) ∧ W.cell? ⟨w.heap.size + 1, 0, none⟩ = some (.int .u32 ts') ∧ W.cell? ⟨w.heap.size + 1, 1, none⟩ = some (.int .u32 td') ∧ W.cell? ⟨w.heap.size + 1, 2, none⟩ = some (.int .u16 tp') ∧ W.cell? ⟨w.heap.size + 1, 3, none⟩ = some (.int .u16 tq'))
    (first | with_reducible exact CT.out _ n2 | with_reducible exact CT.out _ n1 | with_reducible exact CT.out _ n0)
    (first
      | (go_at_call 23; (with_reducible refine (hOf_any ts td tp tq HH.out W0.drew).mono ?_); rintro e w1 ⟨rfl, k1⟩; have n1 := n0.trans (k1.mono n0.size))
      | (go_at_call 23; (with_reducible refine (hOf_any ts' td' tp' tq' HH'.out w1).mono ?_); rintro e w2 ⟨rfl, k2⟩; have n2 := n1.trans (k2.mono n1.size)))
  have L2 := L0.trans (n2.mono L0.size)
  clear CT
  go_wp2
  go_ret
  exact ⟨rfl, L2⟩

/-- What a hasher holds whose table was made k times (0 or 1), cell by cell. -/
def hcell (k off : Nat) : Value := if off = 0 then .int .u32 k else if off = 1 then .int .i32 0 else if off = 2 then .int .u32 0 else if off = 259 then .int .i32 k else .int .u8 (if k = 0 then 0 else trn ((off : Int) - 3))
/-- The hasher at block B: whole, and how often its table was made. -/
def HI (B : Nat) (k : Nat) (w : World) : Prop := B < w.heap.size ∧ (k = 0 ∨ k = 1) ∧ ∀ off, off < 260 → w.cell? ⟨B, off, none⟩ = some (hcell k off) ∧ w.frozen? ⟨B, off, none⟩ = false
theorem HI.size {B k : Nat} {w : World} (h : HI B k w) : B < w.heap.size := h.1
theorem HI.mono {B k : Nat} {w w' : World} (h : HI B k w) (m : Below w.heap.size w w') : HI B k w' := by
  have e := m.block B h.1
  refine ⟨Nat.lt_of_lt_of_le h.1 m.size, h.2.1, fun off ho => ?_⟩
  have h1 := h.2.2 off ho
  rw [World.cell?, World.frozen?] at *
  simp only [e]
  exact h1

def hcells (k : Nat) : Array Value := ((List.range 260).map (hcell k)).toArray
theorem hcells_at (k off : Nat) (h : off < 260) : (hcells k)[off]? = some (hcell k off) := by simp [hcells, h]
set_option maxRecDepth 100000 in
theorem zero_hcells : Try.zeroCells71 = hcells 0 := by kernel_rfl

theorem hNew_any (w : World) : Calls Try.prog 10 #[] w fun e w' => ∃ B, e = .returned (.pointer (some ⟨B, 0, none⟩)) ∧ w.heap.size ≤ B ∧ HI B 0 w' ∧ Below w.heap.size w w' := by
  have bH := heap_alloc_new w (.cells Try.zeroCells71 71)
  go_enter Try.func10, Try.ntmps10
  go_wp2
  go_ret
  refine ⟨_, rfl, Nat.le_refl _, ⟨by simp, .inl rfl, fun off ho => ⟨?_, tup_frozen bH off⟩⟩, (Below.refl _ w).alloc (Nat.le_refl _) _⟩
  rw [cell_of_row _ _ _ _ _ _ bH, zero_hcells]
  exact hcells_at 0 off ho

/-- Of what lay below B nothing turns, of what lay at all block B alone. -/
structure Only (B : Nat) (w w' : World) : Prop where
  below : Below B w w'
  grown : w.grownBy w' (some B)
theorem Only.refl (B : Nat) (w : World) : Only B w w := ⟨Below.refl _ _, World.grownBy.refl _ _⟩
theorem Only.trans {B : Nat} {a b c : World} (h : Only B a b) (k : Only B b c) : Only B a c :=
  ⟨h.below.trans k.below, ⟨k.grown.os.trans h.grown.os, k.grown.tape.trans h.grown.tape, k.grown.output.trans h.grown.output, Nat.le_trans h.grown.size k.grown.size, fun j hj hn => (k.grown.block j (Nat.lt_of_lt_of_le hj h.grown.size) hn).trans (h.grown.block j hj hn)⟩⟩
theorem Only.of_below {B : Nat} {w w' : World} (h : Below w.heap.size w w') (hB : B ≤ w.heap.size) : Only B w w' := ⟨h.mono hB, grown_of_below h _⟩
theorem grown_setCell (W : World) (b off : Nat) (v : Value) : W.grownBy (W.setCell ⟨b, off, none⟩ v) (some b) :=
  ⟨rfl, rfl, rfl, by simp [World.setCell], fun k _ hk => Below.heap_setCell _ _ _ k (fun e => hk (by rw [e]))⟩
theorem Only.setCell {B : Nat} {w w' : World} (h : Only B w w') (off : Nat) (v : Value) : Only B w (w'.setCell ⟨B, off, none⟩ v) :=
  h.trans ⟨(Below.refl B w').setCell (p := ⟨B, off, none⟩) (Nat.le_refl _) v, grown_setCell w' B off v⟩
theorem Only.drew {B : Nat} {w w' : World} (h : Only B w w') : Only B w w'.drew := ⟨h.below.drew, ⟨h.grown.os, h.grown.tape, h.grown.output, h.grown.size, h.grown.block⟩⟩

/-- A hasher whose table is made up to j, the lock held. -/
def fcell (j off : Nat) : Value := if off = 0 then .int .u32 0 else if off = 1 then .int .i32 1 else if off = 2 then .int .u32 0 else if off = 259 then .int .i32 0 else .int .u8 (if off < 3 + j then trn ((off : Int) - 3) else 0)
def FI (B j : Nat) (w : World) : Prop := ∀ off, off < 260 → w.cell? ⟨B, off, none⟩ = some (fcell j off) ∧ w.frozen? ⟨B, off, none⟩ = false

theorem FI.put {B j : Nat} {w : World} (h : FI B j w) (hj : j < 256) : FI B (j + 1) (w.setCell ⟨B, 3 + j, none⟩ (.int .u8 (trn j))) := by
  intro off ho
  refine ⟨?_, by rw [World.frozen?_setCell]; exact (h off ho).2⟩
  by_cases he : off = 3 + j
  · subst he
    rw [World.cell?_setCell_same' _ _ _ (by rw [(h _ ho).1]; rfl)]
    unfold fcell
    rw [if_neg (by omega), if_neg (by omega), if_neg (by omega), if_neg (by omega), if_pos (by omega), show ((3 + j : Nat) : Int) - 3 = (j : Int) by omega]
  · rw [World.cell?_setCell_other _ _ _ _ (fun e => he (by injection e with _ e; exact e.symm)), (h off ho).1]
    congr 1
    unfold fcell
    split
    · rfl
    split
    · rfl
    split
    · rfl
    split
    · rfl
    congr 1
    by_cases hl : off < 3 + j
    · rw [if_pos hl, if_pos (by omega)]
    · rw [if_neg hl, if_neg (by omega)]
theorem FI.drew {B j : Nat} {w : World} (h : FI B j w) : FI B j w.drew := h

set_option maxRecDepth 100000 in
set_option maxHeartbeats 2000000 in
theorem hfill_any (B : Nat) (w : World) (hi : FI B 0 w) : Calls Try.prog 33 #[.pointer (some ⟨B, 0, none⟩)] w fun e w' => e = .returned (.tuple #[]) ∧ ∃ W, FI B 256 W ∧ Only B w W ∧ w' = W.setCell ⟨B, 259, none⟩ (.int .i32 1) := by
  go_enter Try.func33, Try.ntmps33
  go_wp2
  go_loopw [3] (fun i wr => ∃ j : Nat, j ≤ 256 ∧ i = .int .i64 (j : Nat) ∧ FI B j wr ∧ Only B w wr) (fun i _ => 256 - (intOf i).toNat)
  case atStart => exact ⟨0, by omega, rfl, hi, Only.refl _ _⟩
  case round =>
    obtain ⟨j, hj, rfl, hF, hO⟩ := hrel
    by_cases hlt : j < 256
    · have ht : 0 ≤ (j : Int) ∧ (j : Int) ≤ 255 := by omega
      have hd1 : wr.drew.cell? ⟨B, 3 + j, none⟩ = some (fcell j (3 + j)) := (hF (3 + j) (by omega)).1
      have hd2 : wr.drew.frozen? ⟨B, 3 + j, none⟩ = false := (hF (3 + j) (by omega)).2
      have hw : IntKind.u8.wrap (j : Int) = (j : Int) := IntWalk.u8_in _ (by omega)
      have HF := Lib.hid hF
      have HO := Lib.hid hO
      clear hF hO
      go_upto_region 3 with (fail)
      go_region_held3 (fun _ => True) (trivial)
        (first
          | (go_at_call 15; (with_reducible refine (hTurn_is _ ht wr.drew).mono ?_); rintro e w1 ⟨rfl, rfl⟩))
      go_wp2
      go_roundw
      case rel => exact ⟨j + 1, by omega, by go_num, (HF.out.put hlt).drew, (HO.out.setCell _ _).drew⟩
      case measure => simp [intOf]; omega
    · obtain rfl : j = 256 := by omega
      have hd1 := (hF 259 (by omega)).1
      have hd2 := (hF 259 (by omega)).2
      have hadd := run_call_add (P := Try.prog) Try.func77 (by kernel_rfl) (by kernel_rfl) (by kernel_rfl) .i32 (by kernel_rfl) (y := 1) (s := 1) hd1 hd2 (by simp [go_sem]; rfl)
      go_wp2
      go_end0
      exact ⟨rfl, _, hF, hO, rfl⟩

set_option maxRecDepth 100000 in
theorem hturn_at (B : Nat) (c : Int) (h : 0 ≤ c ∧ c ≤ 255) (w : World) (hc : ∀ k : Nat, k < 256 → w.cell? ⟨B, 3 + k, none⟩ = some (.int .u8 (trn k))) : Calls Try.prog 36 #[.pointer (some ⟨B, 0, none⟩), .int .u8 c] w fun e w' => e = .returned (.int .u8 (trn c)) ∧ w = w' := by
  obtain ⟨k, rfl⟩ : ∃ k : Nat, c = (k : Int) := ⟨c.toNat, by omega⟩
  have hk : k < 256 := by omega
  have hck := hc k hk
  clear hc
  go_enter Try.func36, Try.ntmps36
  go_wp2
  go_ret
  exact ⟨rfl, rfl⟩

/-- Behind what a Once's call leaves. -/
theorem FI.done {B : Nat} {W : World} (h : FI B 256 W) : HI B 1 (onceDone (W.setCell ⟨B, 259, none⟩ (.int .i32 1)) B 0) := by
  have hlt : B < W.heap.size := by
    have h0 := (h 0 (by omega)).1
    rcases Nat.lt_or_ge B W.heap.size with h1 | h1
    · exact h1
    · rw [World.cell?, Array.getElem?_eq_none h1] at h0
      cases h0
  refine ⟨by simp [onceDone, World.setCell, World.drew]; exact hlt, .inr rfl, fun off ho => ?_⟩
  have h1 := h off ho
  have h0 := h 0 (by omega)
  have h2 := h 1 (by omega)
  have h3 := h 259 (by omega)
  have he : ∀ {x y : Nat}, x ≠ y → (⟨B, x, none⟩ : Addr) ≠ ⟨B, y, none⟩ := fun hne e => hne (by injection e)
  refine ⟨?_, by rw [onceDone, World.frozen?_setCell, World.frozen?_setCell, World.frozen?_drew, World.frozen?_setCell]; exact h1.2⟩
  unfold onceDone
  by_cases e1 : off = 1
  · subst e1
    rw [World.cell?_setCell_same' _ _ _ (by rw [World.cell?_setCell_other _ _ _ _ (he (by omega)), World.cell?_drew, World.cell?_setCell_other _ _ _ _ (he (by omega)), h1.1]; rfl)]
    rfl
  rw [World.cell?_setCell_other _ _ _ _ (he (by omega))]
  by_cases e0 : off = 0
  · subst e0
    rw [World.cell?_setCell_same' _ _ _ (by rw [World.cell?_drew, World.cell?_setCell_other _ _ _ _ (he (by omega)), h1.1]; rfl)]
    rfl
  rw [World.cell?_setCell_other _ _ _ _ (he (by omega)), World.cell?_drew]
  by_cases e2 : off = 259
  · subst e2
    rw [World.cell?_setCell_same' _ _ _ (by rw [h1.1]; rfl)]
    rfl
  rw [World.cell?_setCell_other _ _ _ _ (he (by omega)), h1.1]
  unfold fcell hcell
  by_cases e3 : off = 2
  · subst e3
    rfl
  rw [if_neg e0, if_neg e1, if_neg e3, if_neg e2, if_pos (by omega), if_neg e0, if_neg e1, if_neg e3, if_neg e2, if_neg (by omega)]

theorem HI.lock {B : Nat} {w : World} (h : HI B 0 w) : FI B 0 (w.setCell ⟨B, 1, none⟩ (.int .i32 1)) := by
  intro off ho
  have h1 := h.2.2 off ho
  refine ⟨?_, by rw [World.frozen?_setCell]; exact h1.2⟩
  by_cases e1 : off = 1
  · subst e1
    rw [World.cell?_setCell_same' _ _ _ (by rw [h1.1]; rfl)]
    rfl
  rw [World.cell?_setCell_other _ _ _ _ (fun e => e1 (by injection e with _ e; exact e.symm)), h1.1]
  unfold fcell hcell
  by_cases e0 : off = 0
  · subst e0
    rfl
  by_cases e3 : off = 2
  · subst e3
    rfl
  by_cases e2 : off = 259
  · subst e2
    rfl
  rw [if_neg e0, if_neg e1, if_neg e3, if_neg e2, if_neg e0, if_neg e1, if_neg e3, if_neg e2, if_pos rfl, if_neg (by omega)]

theorem hdo_any (B k : Nat) (w : World) (hi : HI B k w) : Calls Try.prog 32 #[.pointer (some ⟨B, 0, none⟩), .func (.func 33) #[.pointer (some ⟨B, 0, none⟩)] #[]] w fun e w' => e = .returned (.tuple #[]) ∧ HI B 1 w' ∧ Only B w w' := by
  have h0 := hi.2.2 0 (by omega)
  have h1 := hi.2.2 1 (by omega)
  rcases hi.2.1 with rfl | rfl
  · refine (do_first B 0 33 #[.pointer (some ⟨B, 0, none⟩)] #[] (enters_of Try.func33 (by kernel_rfl) rfl)
      (fun w' => ∃ W, FI B 256 W ∧ Only B (w.setCell ⟨B, 1, none⟩ (.int .i32 1)) W ∧ w' = W.setCell ⟨B, 259, none⟩ (.int .i32 1)) w h0.1 h1.1 h1.2 (hfill_any B _ hi.lock) ?_).mono ?_
    · rintro w' ⟨W, hF, _, rfl⟩
      have he : ∀ {x y : Nat}, x ≠ y → (⟨B, x, none⟩ : Addr) ≠ ⟨B, y, none⟩ := fun hne e => hne (by injection e)
      refine ⟨?_, ?_, ?_, ?_⟩
      · rw [World.cell?_setCell_other _ _ _ _ (he (by omega)), (hF 0 (by omega)).1]; rfl
      · rw [World.cell?_setCell_other _ _ _ _ (he (by omega)), (hF 1 (by omega)).1]; rfl
      · rw [World.frozen?_setCell]; exact (hF 0 (by omega)).2
      · rw [World.frozen?_setCell]; exact (hF 1 (by omega)).2
    · rintro e w' ⟨rfl, W1, ⟨W, hF, hO, rfl⟩, rfl⟩
      exact ⟨rfl, hF.done, ((((((Only.refl B w).setCell 1 _).trans hO).setCell 259 _).drew).setCell 0 _).setCell 1 _⟩
  · refine (do_done ⟨B, 0, none⟩ 1 (by omega) _ w h0.1).mono ?_
    rintro e w' ⟨rfl, rfl⟩
    exact ⟨rfl, hi, Only.refl _ _⟩

theorem turnOk_table (n n₀ B : Nat) (w : World) (hi : HI B 1 w) (hB : B < n₀) : TurnOk n n₀ w 36 #[.pointer (some ⟨B, 0, none⟩)] := fun c hc W m =>
  callsIn_wide.2 (hturn_at B c hc W fun k hk => by
    have h := (hi.2.2 (3 + k) (by omega)).1
    rw [World.cell?_of_block (m.block B hB), h]
    unfold hcell
    rw [if_neg (by omega), if_neg (by omega), if_neg (by omega), if_neg (by omega), if_neg (by omega), show ((3 + k : Nat) : Int) - 3 = (k : Int) by omega])

set_option maxRecDepth 100000 in
set_option maxHeartbeats 1600000 in
theorem hrOf_o (B k : Nat) (ts td tp tq : Int) (H : UNums ts td tp tq) (w : World) (hi : HI B k w) : Calls Try.prog 13 #[.pointer (some ⟨B, 0, none⟩), .agg #[.int .u32 ts, .int .u32 td, .int .u16 tp, .int .u16 tq]] w fun e w' => e = .returned (.int .i64 (ofU ts td tp tq)) ∧ HI B 1 w' ∧ Only B w w' := by
  have bU := heap_alloc_new w (.cells #[.int .u32 ts, .int .u32 td, .int .u16 tp, .int .u16 tq] 26)
  have L0 := (Below.refl w.heap.size w).alloc (Nat.le_refl _) (.cells #[.int .u32 ts, .int .u32 td, .int .u16 tp, .int .u16 tq] 26)
  have hi0 := hi.mono L0
  have O0 := Only.of_below L0 (Nat.le_of_lt hi.size)
  have HH := Lib.hid H
  have hlt := hi.size
  clear H hi
  go_enter Try.func13, Try.ntmps13
  go_upto_region 1 with (fail)
  generalize w.alloc (.cells #[.int .u32 ts, .int .u32 td, .int .u16 tp, .int .u16 tq] 26) = W0 at *
  have K := Lib.hid (hdo_any B k W0 hi0)
  go_wp2_with (fail)
  refine K.out.mono ?_
  rintro e w1 ⟨rfl, hi1, o1⟩
  have bU1 := (o1.grown.block w.heap.size (Array.getElem?_eq_some_iff.1 bU).1 (by simp; omega)).trans bU
  obtain ⟨q0, q1, q2, q3⟩ := tup_cells _ _ _ _ bU1
  have K2 := Lib.hid (tBytes_any ts td tp tq HH.out w1)
  have O1 := Lib.hid (O0.trans o1)
  clear K bU bU1 o1 O0 L0 hi0
  go_wp2_with (fail)
  refine K2.out.mono ?_
  intro e w2 h2
  obtain ⟨A, c, rfl, hc, ho, m2⟩ := h2
  have hi2 := hi1.mono m2
  have K3 := Lib.hid (callsIn_wide.1 (hlast_in 3 (by omega) 36 #[.pointer (some ⟨B, 0, none⟩)] (enters_of Try.func36 (by kernel_rfl) rfl) ⟨0, by decide⟩ A 12 c (tupB ts td tp tq) rfl (by omega) w2 (turnOk_table _ _ B w2 hi2 hi2.size) ho.real))
  have O2 := Lib.hid (O1.out.trans (Only.of_below m2 (Nat.le_of_lt hi1.size)))
  clear K2 ho m2 hc
  go_wp2_with (fail)
  refine K3.out.mono ?_
  rintro e w3 ⟨rfl, m3⟩
  have hi3 := hi2.mono m3
  have K4 := Lib.hid (hbucket_any _ (sumU_in ts td tp tq) w3)
  have O3 := O2.out.trans (Only.of_below m3 (Nat.le_of_lt hi2.size))
  clear K3 m3
  go_wp2_with (fail)
  refine K4.out.mono ?_
  rintro e w4 ⟨rfl, rfl⟩
  go_wp2
  go_ret
  exact ⟨rfl, hi3, O3⟩
end Go.Proofs.Ytklmlpnccbmpnaa
