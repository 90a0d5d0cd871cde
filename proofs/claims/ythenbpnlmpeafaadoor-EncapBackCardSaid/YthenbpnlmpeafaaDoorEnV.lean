/- handfastlaw07: wrapped; plain facts of the document's example. -/
import Derived.Test.YthenbpnlmpeafaaDoorEnS
namespace Go.Proofs.YthenbpnlmpeafaaDoor
open Go.RowKit Go.Shelf
open SumM

theorem wpList_make_lc {P : Program} (w : World) {ops : Array Oper} {rest : List Oper} {o : Oper} {a : Act} {Q : Exit → Act → World → Prop}
    (hg : o.guard = none) (l c : Operand) (t : TypeId) (hop : o.op = Op.makeSlice t l c)
    (base : Nat) (e : TypeId) (i : TypeInfo) (z : Value) (h1 : P.underlying t = some (.slice e)) (h2 : P.info? e = some i) (h3 : i.zero = some z) (h4 : i.size = 1) (hz : z.cells = #[z])
    (kl kc : IntKind) (L C : Int) (m k : Nat) (hl : a.eval l = .int kl L) (hc : a.eval c = .int kc C) (hL : L = (m : Int)) (hC : C = (k : Int)) (hmk : m ≤ k) (b2 : i.bytes * k ≤ 281474976710656) (b3 : k ≤ maxLen) (b4 : base ≤ w.heap.size)
    (hK : ∀ w', w'.ownsRow base e 1 (.slice (some ⟨w.heap.size, 0, none⟩) m k) m (List.replicate m z) → w.grownBy w' none → wpList P ops Q rest (a.put o.dst (.slice (some ⟨w.heap.size, 0, none⟩) m k)) w') :
    wpList P ops Q (o :: rest) a w := by
  refine wpList_plain hg fun K hK' => ?_
  subst hL hC
  have hB2 : (i.bytes : Int) * (k : Int) ≤ 281474976710656 := by
    have : ((i.bytes * k : Nat) : Int) ≤ 281474976710656 := by omega
    rwa [Int.natCast_mul] at this
  have hrun := run_make (P := P) w t e i z h1 h2 h3 kl kc (m : Int) (k : Int) (by omega) (by omega) hB2 (by unfold maxLen at b3; omega)
  rw [Int.toNat_natCast, Int.toNat_natCast] at hrun
  unfold Oper.wp
  simp [execOp, hop, hl, hc, hrun, Result.andThen]
  exact hK' _ _ (hK _ (own_made w base b4 e z m k hmk b3 i h4 hz) (World.grownBy_alloc w _ _))

/-- The document's example: what is borne, its bytes. -/
def exZ : List Int := List.replicate 40 0
def exB : List Int := enB 1 1 2 3 1 5 3 (-1) 7 9 exZ
theorem ex_nums : ONums 1 5 3 (-1) 7 9 := ⟨by decide, by decide, by decide, by decide, by decide, by decide⟩
theorem ex_y : enY 1 1 2 3 1 5 3 (-1) 7 9 exZ.length = 0 := by decide
theorem ex_in : In 255 exZ := fun x hx => by
  have := List.eq_of_mem_replicate hx
  omega
theorem ex_z : enZ 1 1 2 3 1 5 3 (-1) 7 9 exZ = exB := by unfold enZ; rw [if_pos ex_y]; rfl
theorem ex_len : exB.length = 76 := (en_facts ex_y ex_nums ex_in).1
theorem ex_bin : In 255 exB := (en_facts ex_y ex_nums ex_in).2.2.2.2.2.2.2.2
theorem ex_back : etOk exB = true ∧ nodV (segAt exB 8) = (1, 1) ∧ nodV (segAt exB 9) = (2, 3) ∧ otV (etOpt exB) = (1, 5, 3, -1, 7, 9) ∧ etIn exB = exZ := en_back ex_y ex_nums ex_in
theorem ex_75 : etOk (exB.take 75) = false := by
  have h : whyOf (exB.take 75) ≠ 0 := by decide +kernel
  unfold etOk
  rw [decide_eq_false h]
  rfl

set_option maxRecDepth 100000 in
set_option maxHeartbeats 4000000 in
theorem wrapped_any (w : World) : Calls Tryd.prog 26 #[] w fun e w' => ∃ A, e = .returned (.agg #[.int .u8 1, .int .i64 1, .int .u8 2, .int .i64 3, .int .u8 1, .int .u8 5, .int .i64 3, .int .i64 (-1), .int .i64 7, .int .i64 9, .slice A 40 40]) ∧ Row .u8 w'.heap.size w' A exZ ∧ (A = none → (40 : Nat) = 0) ∧ Below w.heap.size w w' := by
  obtain ⟨i0, hi, hz0, hz1, hz2⟩ := info_parts Tryd.infoU8
  have bR := heap_alloc_new w (.cells #[.int .u8 0, .int .i64 0, .int .u8 0, .int .i64 0, .int .u8 0, .int .u8 0, .int .i64 0, .int .i64 0, .int .i64 0, .int .i64 0, .slice none 0 0] 29)
  have L0 := (Below.refl w.heap.size w).alloc (Nat.le_refl _) (.cells #[.int .u8 0, .int .i64 0, .int .u8 0, .int .i64 0, .int .u8 0, .int .u8 0, .int .i64 0, .int .i64 0, .int .i64 0, .int .i64 0, .slice none 0 0] 29)
  go_enter Tryd.func26, Tryd.ntmps26
  go_upto_region 1 with (fail)
  generalize w.alloc (.cells #[.int .u8 0, .int .i64 0, .int .u8 0, .int .i64 0, .int .u8 0, .int .u8 0, .int .i64 0, .int .i64 0, .int .i64 0, .int .i64 0, .slice none 0 0] 29) = W0 at *
  have hlt := (Array.getElem?_eq_some_iff.1 bR).1
  go_wp2_with (first
    | (at_make; refine wpList_make_lc _ rfl _ _ _ rfl w.heap.size 5 i0 (.int .u8 0) Tryd.underlying27 hi hz0 hz1 rfl .i64 .i64 40 40 40 40 rfl rfl rfl rfl (Nat.le_refl _) (by rw [hz2]; omega) (by unfold maxLen; omega) (by omega) ?_; intro w3 hown3 hgrow3; (have bR3 := (hgrow3.block _ hlt (by simp)).trans bR); (have L3 := L0.grown hgrow3 L0.size (fun k e => by cases e)); (have HX := Lib.hid (And.intro bR3 (And.intro L3 hown3))); (have QC := wr_cells _ _ _ _ _ _ _ _ _ _ _ _ _ bR3); (have f0 := wr_frozen bR3 0); (have f1 := wr_frozen bR3 1); (have f2 := wr_frozen bR3 2); (have f3 := wr_frozen bR3 3); (have f4 := wr_frozen bR3 4); (have f5 := wr_frozen bR3 5); (have f6 := wr_frozen bR3 6); (have f7 := wr_frozen bR3 7); (have f8 := wr_frozen bR3 8); (have f9 := wr_frozen bR3 9); (have f10 := wr_frozen bR3 10); (obtain ⟨q0, q1, q2, q3, q4, q5, q6, q7, q8, q9, q10⟩ := QC); clear bR3 L3 hown3 hgrow3))
  refine bodyPost_ret (results_cell_row rfl _ _ w.heap.size 29 _ (0, 0) _ rfl (full_setCells HX.out.1 [.int .u8 1, .int .i64 1, .int .u8 2, .int .i64 3, .int .u8 1, .int .u8 5, .int .i64 3, .int .i64 (-1), .int .i64 7, .int .i64 9, .slice (some ⟨W0.heap.size, 0, none⟩) 40 40] rfl) Tryd.underlying29 rfl Tryd.infoWr) rfl ?_
  refine ⟨_, rfl, ?_, (fun h => by cases h), below_setCells w.heap.size (Nat.le_refl _) [.int .u8 1, .int .i64 1, .int .u8 2, .int .i64 3, .int .u8 1, .int .u8 5, .int .i64 3, .int .i64 (-1), .int .i64 7, .int .i64 9, .slice (some ⟨W0.heap.size, 0, none⟩) 40 40] 0 w _ HX.out.2.1⟩
  have ho := own_apartN (by decide) [.int .u8 1, .int .i64 1, .int .u8 2, .int .i64 3, .int .u8 1, .int .u8 5, .int .i64 3, .int .i64 (-1), .int .i64 7, .int .i64 9, .slice (some ⟨W0.heap.size, 0, none⟩) 40 40] 0 _ _ HX.out.2.2 HX.out.1
  rw [show List.replicate 40 (Value.int .u8 0) = exZ.map (Value.int .u8) by simp [exZ]] at ho
  exact Row.of_own ho (in_wf8 ex_in)

theorem exPut_any (A : Option Addr) (c : Nat) (w : World) (hg : 0 < w.heap.size) (hW : Wid w) (hr : Row .u8 w.heap.size w A exZ) (hn : A = none → c = 0) :
    Calls Tryd.prog 13 #[.agg #[.int .u8 1, .int .i64 1, .int .u8 2, .int .i64 3, .int .u8 1, .int .u8 5, .int .i64 3, .int .i64 (-1), .int .i64 7, .int .i64 9, .slice A 40 c]] w fun e w' => ∃ A c, e = .returned (.tuple #[.slice A 76 c, .int .u8 0]) ∧ Row .u8 w'.heap.size w' A exB ∧ 76 ≤ c ∧ c ≤ 9223372036854775807 ∧ Below w.heap.size w w' := by
  refine (ePut_is 1 1 2 3 1 5 3 (-1) 7 9 A 40 c exZ ex_nums (by decide) w hg hW hr rfl hn).mono ?_
  rintro e w' ⟨A, n, c, rfl, hz, hR, _, hn, hc, m⟩
  rw [ex_y]
  rw [ex_z] at hz hR
  rw [ex_len] at hz
  subst hz
  exact ⟨A, c, rfl, hR, hn, hc, m⟩
theorem exTake_any (A : Option Addr) (c : Nat) (w : World) (hg : 0 < w.heap.size) (hW : Wid w) (hr : Row .u8 w.heap.size w A exB) (hn : 76 ≤ c) (hc : c ≤ 9223372036854775807) :
    Calls Tryd.prog 15 #[.slice A 76 c] w fun e w' => ∃ A c, e = .returned (.tuple #[.agg #[.int .u8 1, .int .i64 1, .int .u8 2, .int .i64 3, .int .u8 1, .int .u8 5, .int .i64 3, .int .i64 (-1), .int .i64 7, .int .i64 9, .slice A 40 c], .int .u8 0]) ∧ Row .u8 w'.heap.size w' A exZ ∧ Below w.heap.size w w' := by
  refine (eTake_any A 76 c exB ex_len hn hc (by decide) w hg hW hr).mono ?_
  unfold EnTakeRet
  obtain ⟨h1, h2, h3, h4, h5⟩ := ex_back
  rw [h1, h2, h3, h4, h5]
  rintro e w' (⟨h0, _⟩ | ⟨_, A, c, rfl, ho, m⟩)
  · cases h0
  · exact ⟨A, c, rfl, Row.of_own ho (in_wf8 ex_in), m⟩
theorem exTake75_any (A : Option Addr) (c : Nat) (w : World) (hg : 0 < w.heap.size) (hW : Wid w) (hr : Row .u8 w.heap.size w A exB) (hn : 75 ≤ c) (hc : c ≤ 9223372036854775807) :
    Calls Tryd.prog 15 #[.slice A 75 c] w fun e w' => e = .returned (.tuple #[.agg #[.int .u8 0, .int .i64 0, .int .u8 0, .int .i64 0, .int .u8 0, .int .u8 0, .int .i64 0, .int .i64 0, .int .i64 0, .int .i64 0, .slice none 0 0], .int .u8 13]) ∧ Below w.heap.size w w' := by
  refine (eTake_any A 75 c (exB.take 75) (by rw [List.length_take, ex_len]; rfl) hn hc (by decide) w hg hW (hr.take 75)).mono ?_
  rintro e w' (⟨_, rfl, m⟩ | ⟨h0, _⟩)
  · exact ⟨rfl, m⟩
  · rw [ex_75] at h0
    cases h0
theorem exLong_any (A : Option Addr) (ls : List Int) (hl : ls.length = 65500) (w : World) (hg : 0 < w.heap.size) (hW : Wid w) (hr : Row .u8 w.heap.size w A ls) (hn : A = none → (65500 : Nat) = 0) :
    Calls Tryd.prog 13 #[.agg #[.int .u8 1, .int .i64 1, .int .u8 2, .int .i64 3, .int .u8 1, .int .u8 5, .int .i64 3, .int .i64 (-1), .int .i64 7, .int .i64 9, .slice A 65500 65500]] w fun e w' => ∃ A n c, e = .returned (.tuple #[.slice A n c, .int .u8 12]) ∧ Below w.heap.size w w' := by
  refine (ePut_is 1 1 2 3 1 5 3 (-1) 7 9 A 65500 65500 ls ex_nums (by decide) w hg hW hr hl hn).mono ?_
  rintro e w' ⟨A, n, c, rfl, hz, hR, _, hn, hc, m⟩
  rw [hl, show enY 1 1 2 3 1 5 3 (-1) 7 9 65500 = 12 by decide]
  exact ⟨A, n, c, rfl, m⟩
theorem exNone_any (w : World) (hg : 0 < w.heap.size) (hW : Wid w) :
    Calls Tryd.prog 13 #[.agg #[.int .u8 0, .int .i64 0, .int .u8 0, .int .i64 0, .int .u8 0, .int .u8 0, .int .i64 0, .int .i64 0, .int .i64 0, .int .i64 0, .slice none 0 0]] w fun e w' => ∃ A n c, e = .returned (.tuple #[.slice A n c, .int .u8 13]) ∧ Below w.heap.size w w' := by
  refine (ePut_is 0 0 0 0 0 0 0 0 0 0 none 0 0 [] ⟨by decide, by decide, by decide, by decide, by decide, by decide⟩ (by decide) w hg hW (Row.nil _ _ _ _) rfl (fun _ => rfl)).mono ?_
  rintro e w' ⟨A, n, c, rfl, hz, hR, _, hn, hc, m⟩
  rw [show enY 0 0 0 0 0 0 0 0 0 0 ([] : List Int).length = 13 by decide]
  exact ⟨A, n, c, rfl, m⟩
theorem exAddr_any (w : World) : Calls Tryd.prog 9 #[.agg #[.int .u8 2, .int .i64 3]] w fun e w' => e = .returned (.tuple #[.int .u32 167772675, .bool true]) ∧ Below w.heap.size w w' := by
  have h := eAddr_is 2 3 w
  rwa [show adrV (2, 3) = 167772675 by decide, show isNod (2, 3) = true by decide] at h
theorem exAddrNo_any (w : World) : Calls Tryd.prog 9 #[.agg #[.int .u8 3, .int .i64 1]] w fun e w' => e = .returned (.tuple #[.int .u32 0, .bool false]) ∧ Below w.heap.size w w' := by
  have h := eAddr_is 3 1 w
  rwa [show adrV (3, 1) = 0 by decide, show isNod (3, 1) = false by decide] at h
theorem exNode_any (w : World) : Calls Tryd.prog 11 #[.int .u32 167772675] w fun e w' => e = .returned (.tuple #[.agg #[.int .u8 2, .int .i64 3], .bool true]) ∧ Below w.heap.size w w' := by
  have h := eNode_is 167772675 w
  rwa [show nodV 167772675 = (2, 3) by decide, show nodB 167772675 = true by decide] at h
theorem exNodeNo_any (w : World) : Calls Tryd.prog 11 #[.int .u32 167772678] w fun e w' => e = .returned (.tuple #[.agg #[.int .u8 0, .int .i64 0], .bool false]) ∧ Below w.heap.size w w' := by
  have h := eNode_is 167772678 w
  rwa [show nodV 167772678 = (0, 0) by decide, show nodB 167772678 = false by decide] at h
end Go.Proofs.YthenbpnlmpeafaaDoor
