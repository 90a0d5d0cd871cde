/- What the small functions of package tcp answer: mayBe, Pseudo, withPseudo, lay; an append onto a full row of bytes. -/
import Derived.Test.YtclofmgnnohhpaaGen
import Derived.Test.YtclofmgnnohhpaaChecks
import Derived.ArgAppend
namespace Go.Proofs.Ytclofmgnnohhpaa
open Go.RowKit Go.Shelf
open SumM

/-- What 'append(s, x...)' tells, s a full row of bytes wherever it lies, x bytes that came in, nil or not. -/
theorem run_append_full {P : Program} (w : World) (t ty e : TypeId) (i : TypeInfo) (ht : P.underlying t = some (.slice e)) (hi : P.info? e = some i) (hz : i.zero = some (.int .u8 0)) (hs : i.size = 1) (hb : i.bytes = 1)
    (b off n : Nat) (xs : List Int) (hn : xs.length = n) (hb0 : b < w.heap.size) (hx : ∀ j, j < n → w.cell? ⟨b, off + j, none⟩ = some (.int .u8 (xs[j]?.getD 0))) (hin : In 255 xs)
    (A : Option Addr) (m c : Nat) (zs : List Int) (hl : zs.length = m) (hr : Row .u8 w.heap.size w A zs) (hnil : A = none → c = 0) (hle : n + m ≤ 100000000) :
    ∃ A' c' w', (Builtin.append_ #[t, t] ty #[.slice (some ⟨b, off, none⟩) n n, .slice A m c]).run P w = .ok (.slice A' (n + m) c') w' ∧ Row .u8 w'.heap.size w' A' (xs ++ zs) ∧ w.grownBy w' none := by
  have hin' : ∀ x ∈ xs, (Lit.int .u8 x).wf = true := fun x hx => wf_u8.2 (hin x hx)
  rcases Nat.eq_zero_or_pos m with h0 | h0
  · subst h0
    obtain rfl : zs = [] := List.eq_nil_of_length_eq_zero hl
    refine ⟨some ⟨b, off, none⟩, n, w, ?_, ⟨by simpa using hin', fun hp => ⟨b, off, rfl, hb0, fun j hj => ?_⟩⟩, World.grownBy.refl w _⟩
    · rcases A with _ | A
      · obtain rfl := hnil rfl
        simp [Builtin.append_, run_underlying ht, sizeOf, typeInfo, hi, Builtin.lenOf, Builtin.firstCells, storeCells]
      · simp [Builtin.append_, run_underlying ht, sizeOf, typeInfo, hi, Builtin.lenOf, Builtin.firstCells, storeCells, loadCells, loadCellsFrom]
    · rw [List.append_nil] at hj ⊢
      exact hx j (by omega)
  · obtain ⟨b', off', rfl, hb', hc'⟩ := hr.2 (by omega)
    obtain ⟨v', w', hrun, ho, hg⟩ := run_append_arg_grows (P := P) w t ty e i (.int .u8 0) 1 1 ht hi hz hs hb rfl (by decide) ⟨b, off, none⟩ n n (xs.map (Value.int .u8)) (by simp [hn]) (fun j u hu => by
        have hj : j < xs.length := by simpa using (List.getElem?_eq_some_iff.1 hu).1
        rw [addr_add, hx j (by omega)]
        simpa [hj] using hu) ⟨b', off', none⟩ m c (zs.map (Value.int .u8)) (by simp [hl]) (fun j u hu => by
        have hj : j < zs.length := by simpa using (List.getElem?_eq_some_iff.1 hu).1
        rw [addr_add, hc' j hj]
        simpa [hj] using hu) (by omega) (by unfold maxLen; omega) (by omega)
    rw [← List.map_append] at ho
    obtain ⟨A', c', rfl⟩ := own_slice ho
    refine ⟨A', c', w', hrun, Row.of_own ho (fun x hx => ?_), hg⟩
    rcases List.mem_append.1 hx with h | h
    · exact hin' x h
    · exact hr.1 x h
/-- The same at the operation. -/
theorem wpList_append_full {P : Program} (w : World) {ops : Array Oper} {rest : List Oper} {o : Oper} {a : Act} {Q : Exit → Act → World → Prop} (hgd : o.guard = none) (s x : Operand) (t : TypeId)
    (ho : o.op = .call { callee := .builtin .append, args := #[s, x], argTypes := #[t, t] })
    (e : TypeId) (i : TypeInfo) (ht : P.underlying t = some (.slice e)) (hi : P.info? e = some i) (hz : i.zero = some (.int .u8 0)) (hs : i.size = 1) (hb : i.bytes = 1)
    (b off n : Nat) (xs : List Int) (hes : a.eval s = .slice (some ⟨b, off, none⟩) n n) (hn : xs.length = n) (hb0 : b < w.heap.size) (hx : ∀ j, j < n → w.cell? ⟨b, off + j, none⟩ = some (.int .u8 (xs[j]?.getD 0))) (hin : In 255 xs)
    (A : Option Addr) (m c : Nat) (zs : List Int) (hex : a.eval x = .slice A m c) (hl : zs.length = m) (hr : Row .u8 w.heap.size w A zs) (hnil : A = none → c = 0) (hle : n + m ≤ 100000000)
    (h : ∀ A' c' w', Row .u8 w'.heap.size w' A' (xs ++ zs) → w.grownBy w' none → wpList P ops Q rest (a.put o.dst (.slice A' (n + m) c')) w') : wpList P ops Q (o :: rest) a w := by
  refine wpList_plain hgd fun K hK => ?_
  obtain ⟨A', c', w', hrun, h1, h2⟩ := run_append_full (P := P) w t o.type e i ht hi hz hs hb b off n xs hn hb0 hx hin A m c zs hl hr hnil hle
  unfold Oper.wp
  simp [execOp, ho, resolve, invoke, builtin, hes, hex, hrun, Result.andThen]
  exact hK _ _ (h A' c' w' h1 h2)

/-- Whether a segment may be. -/
def mayB (hd : Int) (dn : Nat) : Bool := decide (20 ≤ hd ∧ hd ≤ 60 ∧ hd % 4 = 0 ∧ hd + dn ≤ 65535)
theorem mayB_le {hd : Int} {dn : Nat} (h : mayB hd dn = true) : 20 ≤ hd ∧ hd ≤ 60 ∧ hd % 4 = 0 ∧ hd + dn ≤ 65535 := of_decide_eq_true h
theorem mayB_no {hd : Int} {dn : Nat} (h : ¬ (20 ≤ hd ∧ hd ≤ 60 ∧ hd % 4 = 0 ∧ hd + dn ≤ 65535)) : mayB hd dn = false := decide_eq_false h
theorem mayB_yes {hd : Int} {dn : Nat} (h : 20 ≤ hd ∧ hd ≤ 60 ∧ hd % 4 = 0 ∧ hd + dn ≤ 65535) : mayB hd dn = true := decide_eq_true h

theorem tcp_cells {w : World} {b : Nat} (sp dp tf hd : Int) (da : Option Addr) (dn dc : Nat) (h : w.heap[b]? = some (.cells #[.int .u16 sp, .int .u16 dp, .int .u8 tf, .int .i64 hd, .slice da dn dc] 26 (0, 0))) :
    w.cell? ⟨b, 0, none⟩ = some (.int .u16 sp) ∧ w.cell? ⟨b, 1, none⟩ = some (.int .u16 dp) ∧ w.cell? ⟨b, 2, none⟩ = some (.int .u8 tf) ∧ w.cell? ⟨b, 3, none⟩ = some (.int .i64 hd) ∧ w.cell? ⟨b, 4, none⟩ = some (.slice da dn dc) := by
  refine ⟨?_, ?_, ?_, ?_, ?_⟩ <;> (rw [cell_of_row _ _ _ _ _ _ h]; rfl)

set_option maxRecDepth 100000 in
set_option maxHeartbeats 1000000 in
theorem mayBe_any (sp dp tf hd : Int) (da : Option Addr) (dn dc : Nat) (w : World) (hh : -9223372036854775808 ≤ hd ∧ hd ≤ 9223372036854775807) (_ : dn ≤ 281474976710656) :
    Calls Try.prog 24 #[.agg #[.int .u16 sp, .int .u16 dp, .int .u8 tf, .int .i64 hd, .slice da dn dc]] w fun e w' => e = .returned (.bool (mayB hd dn)) ∧ Below w.heap.size w w' := by
  have L0 := (Below.refl w.heap.size w).alloc (Nat.le_refl _) (.cells #[.int .u16 sp, .int .u16 dp, .int .u8 tf, .int .i64 hd, .slice da dn dc] 26)
  by_cases h1 : hd < 20
  · have hb1 : decide (hd < 20) = true := decide_eq_true h1
    have hm := Lib.hid (mayB_no (hd := hd) (dn := dn) (by omega))
    go_enter Try.func24, Try.ntmps24
    go_wp2
    go_ret
    exact ⟨ret_bool hm.out.symm, L0⟩
  have hb1 : decide (hd < 20) = false := decide_eq_false h1
  by_cases h2 : 60 < hd
  · have hb2 : decide (60 < hd) = true := decide_eq_true h2
    have hm := Lib.hid (mayB_no (hd := hd) (dn := dn) (by omega))
    go_enter Try.func24, Try.ntmps24
    go_wp2
    go_ret
    exact ⟨ret_bool hm.out.symm, L0⟩
  have hb2 : decide (60 < hd) = false := decide_eq_false h2
  have ht : hd.tmod 4 = hd % 4 := Int.tmod_eq_emod_of_nonneg (by omega)
  by_cases h3 : hd % 4 = 0
  · have hb3 : (hd % 4 != 0) = false := by simp [h3]
    have hw : IntKind.i64.wrap (65535 - hd) = 65535 - hd := IntWalk.i64_in _ (by omega)
    have hm : Hid (mayB hd dn = decide ((dn : Int) ≤ 65535 - hd)) := Lib.hid <| by
      unfold mayB
      rw [decide_eq_decide]
      omega
    go_enter Try.func24, Try.ntmps24
    go_wp2
    go_ret
    exact ⟨ret_bool hm.out.symm, L0⟩
  · have hb3 : (hd % 4 != 0) = true := by simp [h3]
    have hm := Lib.hid (mayB_no (hd := hd) (dn := dn) (by omega))
    go_enter Try.func24, Try.ntmps24
    go_wp2
    go_ret
    exact ⟨ret_bool hm.out.symm, L0⟩

/-- The pseudo-head of two addresses and a number. -/
def psOf (s d n : Int) : List Int :=
  [s / 16777216, s / 65536 % 256, s / 256 % 256, s % 256, d / 16777216, d / 65536 % 256, d / 256 % 256, d % 256, 0, 6, n / 256 % 256, n % 256]
theorem psOf_length (s d n : Int) : (psOf s d n).length = 12 := rfl
theorem psOf_in {s d : Int} (hs : 0 ≤ s ∧ s ≤ 4294967295) (hd : 0 ≤ d ∧ d ≤ 4294967295) (n : Int) : In 255 (psOf s d n) := by
  intro x hx
  simp [psOf] at hx
  omega

/-- The world behind a pseudo-head. -/
def psW (s d n : Int) (w : World) : World := w.alloc (.cells ((psOf s d n).map (Value.int .u8)).toArray 50)
theorem psW_size (s d n : Int) (w : World) : (psW s d n w).heap.size = w.heap.size + 1 := by simp [psW]
theorem psW_below (s d n : Int) (w : World) : Below w.heap.size w (psW s d n w) := (Below.refl _ w).alloc (Nat.le_refl _) _
theorem psW_cell (s d n : Int) (w : World) (j : Nat) (hj : j < 12) : (psW s d n w).cell? ⟨w.heap.size, 0 + j, none⟩ = some (.int .u8 ((psOf s d n)[j]?.getD 0)) := by
  unfold psW
  rw [cell_of_row _ _ _ _ _ _ (heap_alloc_new w _)]
  have h : (0 + j) < (psOf s d n).length := by rw [psOf_length]; omega
  simp at h
  simp [h]

set_option maxRecDepth 100000 in
set_option maxHeartbeats 1000000 in
theorem pseudo_any (s d n : Int) (hs : 0 ≤ s ∧ s ≤ 4294967295) (hd : 0 ≤ d ∧ d ≤ 4294967295) (w : World) :
    Calls Try.prog 14 #[.int .u32 s, .int .u32 d, .int .i64 n] w fun e w' => e = .returned (.slice (some ⟨w.heap.size, 0, none⟩) 12 12) ∧ w' = psW s d n w := by
  go_enter Try.func14, Try.ntmps14
  go_wp2
  go_ret
  exact ⟨rfl, rfl⟩

/-- The pseudo-head, and the bytes behind it. -/
def PsRet (s d : Int) (m : Nat) (zs : List Int) (w : World) (e : Ending) (w' : World) : Prop :=
  ∃ A c, e = .returned (.slice A (12 + m) c) ∧ Row .u8 w'.heap.size w' A (psOf s d m ++ zs) ∧ Below w.heap.size w w'
set_option maxRecDepth 100000 in
set_option maxHeartbeats 1000000 in
theorem withPs_any (s d : Int) (hs : 0 ≤ s ∧ s ≤ 4294967295) (hd : 0 ≤ d ∧ d ≤ 4294967295) (A : Option Addr) (m c : Nat) (zs : List Int) (hl : zs.length = m) (hle : m ≤ 90000000) (w : World) (hr : Row .u8 w.heap.size w A zs) (hnil : A = none → c = 0) :
    Calls Try.prog 21 #[.int .u32 s, .int .u32 d, .slice A m c] w (PsRet s d m zs w) := by
  obtain ⟨i0, hi, hz0, hz1, hz2⟩ := info_parts Try.infoU8
  have HL := Lib.hid hl
  have HN := Lib.hid hnil
  have hR := Lib.hid ((hr.below (psW_below s d m w)).more (psW_below s d m w).size)
  clear hl hnil hr
  go_enter Try.func21, Try.ntmps21
  go_wp2_with (first
    | (go_at_call 14; refine (pseudo_any s d m hs hd w).mono ?_; rintro e w1 ⟨rfl, rfl⟩)
    | (at_builtin; refine wpList_append_full _ rfl (.tmp 11) (.tmp 12) 23 rfl 5 i0 Try.underlying23 hi hz0 hz1 hz2 w.heap.size 0 12 (psOf s d m) rfl rfl (by rw [psW_size]; omega) (psW_cell s d m w) (psOf_in hs hd m) A m c zs rfl HL.out hR.out HN.out (by omega) ?_; intro A' c' w2 r2 g2))
  go_ret
  exact ⟨A', c', rfl, r2, (psW_below s d m w).grown g2 (by rw [psW_size]; omega) (fun k e => by cases e)⟩

set_option maxRecDepth 100000 in
set_option maxHeartbeats 1000000 in
theorem lay_any (g n cap base : Nat) (zs : List Int) (w : World) (j : Nat) (c : Int) (hc : 0 ≤ c ∧ c ≤ 65535) (hj : j + 1 < n) (hm : n ≤ 1048576) (h : w.ownsRow base 5 1 (.slice (some ⟨g, 0, none⟩) n cap) n (zs.map (Value.int .u8))) :
    Calls Try.prog 26 #[.slice (some ⟨g, 0, none⟩) n cap, .int .i64 j, .int .u16 c] w fun e w' => (∃ v, e = .returned v) ∧ w' = (w.setCell ⟨g, j, none⟩ (.int .u8 (c / 256))).setCell ⟨g, j + 1, none⟩ (.int .u8 (c % 256)) := by
  have h1 := own_store h j (c / 256)
  have e1 := own_cell h j (by omega)
  have f1 := h.frozenAt j
  have e2 := own_cell h1 (j + 1) (by omega)
  have f2 := h1.frozenAt (j + 1)
  go_enter Try.func26, Try.ntmps26
  go_wp2
  go_end0
  exact ⟨⟨_, rfl⟩, rfl⟩
end Go.Proofs.Ytclofmgnnohhpaa
