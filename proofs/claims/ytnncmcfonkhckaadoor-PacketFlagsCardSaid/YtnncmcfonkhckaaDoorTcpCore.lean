/- TcpCore: What the small functions of package tcp answer: mayBe, Pseudo, withPseudo, lay; an append onto a full row of bytes. What 'handfast/tcp.numbersOf' and the closure that it hands back do: a head's three numbers, each with its place; what bytes become of them. What 'handfast/tcp.numbersIn' and the closure that it hands back do: the ten numbers of two bytes that a segment begins with, each with its place. What 'handfast/tcp.Put' answers. What 'handfast/tcp.Parse' answers. -/
import Derived.Test.YtnncmcfonkhckaaDoorCore
import Derived.ArgAppend
import Derived.Stop.RegionWithIn

/- What the small functions of package tcp answer: mayBe, Pseudo, withPseudo, lay; an append onto a full row of bytes. -/
namespace Go.Proofs.YtnncmcfonkhckaaDoor
open Go.RowKit Go.Shelf
open SumM

/-- What 'append(s, x...)' tells, s a full row of bytes wherever it lies, x bytes that came in, nil or not. -/
theorem run_append_full {P : Program} (w : World) (t ty e : TypeId) (i : TypeInfo) (ht : P.underlying t = some (.slice e)) (hi : P.info? e = some i) (hz : i.zero = some (.int .u8 0)) (hs : i.size = 1) (hb : i.bytes = 1)
    (b off n : Nat) (xs : List Int) (hn : xs.length = n) (hb0 : b < w.heap.size) (hx : ∀ j, j < n → w.cell? ⟨b, off + j, none⟩ = some (.int .u8 (xs[j]?.getD 0))) (hin : In 255 xs)
    (A : Option Addr) (m c : Nat) (zs : List Int) (hl : zs.length = m) (hr : Row .u8 w.heap.size w A zs) (hnil : A = none → c = 0) (hle : n + m ≤ 100000000) :
    ∃ A' c' w', (Builtin.append_ #[t, t] ty #[.slice (some ⟨b, off, none⟩) n n, .slice A m c]).run P w = .ok (.slice A' (n + m) c') w' ∧ Row .u8 w'.heap.size w' A' (xs ++ zs) ∧ w.grownBy w' none := by
  have hin' : ∀ x ∈ xs, (Lit.int .u8 x).wf = true := fun x hx => wf_u8.2 (hin x hx)
  rcases Nat.eq_zero_or_pos m with h0 | h0
  · subst h0
    obtain rfl : zs = [] := List.eq_nil_of_length_eq_zero hl
    refine ⟨some ⟨b, off, none⟩, n, w, ?_, ⟨by simpa using hin', fun hp => ⟨b, off, rfl, hb0, fun j hj => ?_⟩⟩, World.grownBy.refl w _⟩
    · rcases A with _ | A
      · obtain rfl := hnil rfl
        simp [Builtin.append_, run_underlying ht, sizeOf, typeInfo, hi, Builtin.lenOf, Builtin.firstCells, storeCells]
      · simp [Builtin.append_, run_underlying ht, sizeOf, typeInfo, hi, Builtin.lenOf, Builtin.firstCells, storeCells, loadCells, loadCellsFrom]
    · rw [List.append_nil] at hj ⊢
      exact hx j (by omega)
  · obtain ⟨b', off', rfl, hb', hc'⟩ := hr.2 (by omega)
    obtain ⟨v', w', hrun, ho, hg⟩ := run_append_arg_grows (P := P) w t ty e i (.int .u8 0) 1 1 ht hi hz hs hb rfl (by decide) ⟨b, off, none⟩ n n (xs.map (Value.int .u8)) (by simp [hn]) (fun j u hu => by
        have hj : j < xs.length := by simpa using (List.getElem?_eq_some_iff.1 hu).1
        rw [addr_add, hx j (by omega)]
        simpa [hj] using hu) ⟨b', off', none⟩ m c (zs.map (Value.int .u8)) (by simp [hl]) (fun j u hu => by
        have hj : j < zs.length := by simpa using (List.getElem?_eq_some_iff.1 hu).1
        rw [addr_add, hc' j hj]
        simpa [hj] using hu) (by omega) (by unfold maxLen; omega) (by omega)
    rw [← List.map_append] at ho
    obtain ⟨A', c', rfl⟩ := own_slice ho
    refine ⟨A', c', w', hrun, Row.of_own ho (fun x hx => ?_), hg⟩
    rcases List.mem_append.1 hx with h | h
    · exact hin' x h
    · exact hr.1 x h
/-- The same at the operation. -/
theorem wpList_append_full {P : Program} (w : World) {ops : Array Oper} {rest : List Oper} {o : Oper} {a : Act} {Q : Exit → Act → World → Prop} (hgd : o.guard = none) (s x : Operand) (t : TypeId)
    (ho : o.op = .call { callee := .builtin .append, args := #[s, x], argTypes := #[t, t] })
    (e : TypeId) (i : TypeInfo) (ht : P.underlying t = some (.slice e)) (hi : P.info? e = some i) (hz : i.zero = some (.int .u8 0)) (hs : i.size = 1) (hb : i.bytes = 1)
    (b off n : Nat) (xs : List Int) (hes : a.eval s = .slice (some ⟨b, off, none⟩) n n) (hn : xs.length = n) (hb0 : b < w.heap.size) (hx : ∀ j, j < n → w.cell? ⟨b, off + j, none⟩ = some (.int .u8 (xs[j]?.getD 0))) (hin : In 255 xs)
    (A : Option Addr) (m c : Nat) (zs : List Int) (hex : a.eval x = .slice A m c) (hl : zs.length = m) (hr : Row .u8 w.heap.size w A zs) (hnil : A = none → c = 0) (hle : n + m ≤ 100000000)
    (h : ∀ A' c' w', Row .u8 w'.heap.size w' A' (xs ++ zs) → w.grownBy w' none → wpList P ops Q rest (a.put o.dst (.slice A' (n + m) c')) w') : wpList P ops Q (o :: rest) a w := by
  refine wpList_plain hgd fun K hK => ?_
  obtain ⟨A', c', w', hrun, h1, h2⟩ := run_append_full (P := P) w t o.type e i ht hi hz hs hb b off n xs hn hb0 hx hin A m c zs hl hr hnil hle
  unfold Oper.wp
  simp [execOp, ho, resolve, invoke, builtin, hes, hex, hrun, Result.andThen]
  exact hK _ _ (h A' c' w' h1 h2)

/-- Whether a segment may be. -/
def mayB (hd : Int) (dn : Nat) : Bool := decide (20 ≤ hd ∧ hd ≤ 60 ∧ hd % 4 = 0 ∧ hd + dn ≤ 65535)
theorem mayB_le {hd : Int} {dn : Nat} (h : mayB hd dn = true) : 20 ≤ hd ∧ hd ≤ 60 ∧ hd % 4 = 0 ∧ hd + dn ≤ 65535 := of_decide_eq_true h
theorem mayB_no {hd : Int} {dn : Nat} (h : ¬ (20 ≤ hd ∧ hd ≤ 60 ∧ hd % 4 = 0 ∧ hd + dn ≤ 65535)) : mayB hd dn = false := decide_eq_false h
theorem mayB_yes {hd : Int} {dn : Nat} (h : 20 ≤ hd ∧ hd ≤ 60 ∧ hd % 4 = 0 ∧ hd + dn ≤ 65535) : mayB hd dn = true := decide_eq_true h

theorem tcp_cells {w : World} {b : Nat} (sp dp tf hd : Int) (da : Option Addr) (dn dc : Nat) (h : w.heap[b]? = some (.cells #[.int .u16 sp, .int .u16 dp, .int .u8 tf, .int .i64 hd, .slice da dn dc] 46 (0, 0))) :
    w.cell? ⟨b, 0, none⟩ = some (.int .u16 sp) ∧ w.cell? ⟨b, 1, none⟩ = some (.int .u16 dp) ∧ w.cell? ⟨b, 2, none⟩ = some (.int .u8 tf) ∧ w.cell? ⟨b, 3, none⟩ = some (.int .i64 hd) ∧ w.cell? ⟨b, 4, none⟩ = some (.slice da dn dc) := by
  refine ⟨?_, ?_, ?_, ?_, ?_⟩ <;> (rw [cell_of_row _ _ _ _ _ _ h]; rfl)

set_option maxRecDepth 100000 in
set_option maxHeartbeats 1000000 in
theorem mayBe_any (sp dp tf hd : Int) (da : Option Addr) (dn dc : Nat) (w : World) (hh : -9223372036854775808 ≤ hd ∧ hd ≤ 9223372036854775807) (_ : dn ≤ 281474976710656) :
    Calls Tryd.prog 39 #[.agg #[.int .u16 sp, .int .u16 dp, .int .u8 tf, .int .i64 hd, .slice da dn dc]] w fun e w' => e = .returned (.bool (mayB hd dn)) ∧ Below w.heap.size w w' := by
  have L0 := (Below.refl w.heap.size w).alloc (Nat.le_refl _) (.cells #[.int .u16 sp, .int .u16 dp, .int .u8 tf, .int .i64 hd, .slice da dn dc] 46)
  by_cases h1 : hd < 20
  · have hb1 : decide (hd < 20) = true := decide_eq_true h1
    have hm := Lib.hid (mayB_no (hd := hd) (dn := dn) (by omega))
    go_enter Tryd.func39, Tryd.ntmps39
    go_wp2
    go_ret
    exact ⟨ret_bool hm.out.symm, L0⟩
  have hb1 : decide (hd < 20) = false := decide_eq_false h1
  by_cases h2 : 60 < hd
  · have hb2 : decide (60 < hd) = true := decide_eq_true h2
    have hm := Lib.hid (mayB_no (hd := hd) (dn := dn) (by omega))
    go_enter Tryd.func39, Tryd.ntmps39
    go_wp2
    go_ret
    exact ⟨ret_bool hm.out.symm, L0⟩
  have hb2 : decide (60 < hd) = false := decide_eq_false h2
  have ht : hd.tmod 4 = hd % 4 := Int.tmod_eq_emod_of_nonneg (by omega)
  by_cases h3 : hd % 4 = 0
  · have hb3 : (hd % 4 != 0) = false := by simp [h3]
    have hw : IntKind.i64.wrap (65535 - hd) = 65535 - hd := IntWalk.i64_in _ (by omega)
    have hm : Hid (mayB hd dn = decide ((dn : Int) ≤ 65535 - hd)) := Lib.hid <| by
      unfold mayB
      rw [decide_eq_decide]
      omega
    go_enter Tryd.func39, Tryd.ntmps39
    go_wp2
    go_ret
    exact ⟨ret_bool hm.out.symm, L0⟩
  · have hb3 : (hd % 4 != 0) = true := by simp [h3]
    have hm := Lib.hid (mayB_no (hd := hd) (dn := dn) (by omega))
    go_enter Tryd.func39, Tryd.ntmps39
    go_wp2
    go_ret
    exact ⟨ret_bool hm.out.symm, L0⟩

/-- The pseudo-head of two addresses and a number. -/
def psOf (s d n : Int) : List Int :=
  [s / 16777216, s / 65536 % 256, s / 256 % 256, s % 256, d / 16777216, d / 65536 % 256, d / 256 % 256, d % 256, 0, 6, n / 256 % 256, n % 256]
theorem psOf_length (s d n : Int) : (psOf s d n).length = 12 := rfl
theorem psOf_in {s d : Int} (hs : 0 ≤ s ∧ s ≤ 4294967295) (hd : 0 ≤ d ∧ d ≤ 4294967295) (n : Int) : In 255 (psOf s d n) := by
  intro x hx
  simp [psOf] at hx
  omega

/-- The world behind a pseudo-head. -/
def psW (s d n : Int) (w : World) : World := w.alloc (.cells ((psOf s d n).map (Value.int .u8)).toArray 92)
theorem psW_size (s d n : Int) (w : World) : (psW s d n w).heap.size = w.heap.size + 1 := by simp [psW]
theorem psW_below (s d n : Int) (w : World) : Below w.heap.size w (psW s d n w) := (Below.refl _ w).alloc (Nat.le_refl _) _
theorem psW_cell (s d n : Int) (w : World) (j : Nat) (hj : j < 12) : (psW s d n w).cell? ⟨w.heap.size, 0 + j, none⟩ = some (.int .u8 ((psOf s d n)[j]?.getD 0)) := by
  unfold psW
  rw [cell_of_row _ _ _ _ _ _ (heap_alloc_new w _)]
  have h : (0 + j) < (psOf s d n).length := by rw [psOf_length]; omega
  simp at h
  simp [h]

set_option maxRecDepth 100000 in
set_option maxHeartbeats 1000000 in
theorem pseudo_any (s d n : Int) (hs : 0 ≤ s ∧ s ≤ 4294967295) (hd : 0 ≤ d ∧ d ≤ 4294967295) (w : World) :
    Calls Tryd.prog 63 #[.int .u32 s, .int .u32 d, .int .i64 n] w fun e w' => e = .returned (.slice (some ⟨w.heap.size, 0, none⟩) 12 12) ∧ w' = psW s d n w := by
  go_enter Tryd.func63, Tryd.ntmps63
  go_wp2
  go_ret
  exact ⟨rfl, rfl⟩

/-- The pseudo-head, and the bytes behind it. -/
def PsRet (s d : Int) (m : Nat) (zs : List Int) (w : World) (e : Ending) (w' : World) : Prop :=
  ∃ A c, e = .returned (.slice A (12 + m) c) ∧ Row .u8 w'.heap.size w' A (psOf s d m ++ zs) ∧ Below w.heap.size w w'
set_option maxRecDepth 100000 in
set_option maxHeartbeats 1000000 in
theorem withPs_any (s d : Int) (hs : 0 ≤ s ∧ s ≤ 4294967295) (hd : 0 ≤ d ∧ d ≤ 4294967295) (A : Option Addr) (m c : Nat) (zs : List Int) (hl : zs.length = m) (hle : m ≤ 90000000) (w : World) (hr : Row .u8 w.heap.size w A zs) (hnil : A = none → c = 0) :
    Calls Tryd.prog 43 #[.int .u32 s, .int .u32 d, .slice A m c] w (PsRet s d m zs w) := by
  obtain ⟨i0, hi, hz0, hz1, hz2⟩ := info_parts Tryd.infoU8
  have HL := Lib.hid hl
  have HN := Lib.hid hnil
  have hR := Lib.hid ((hr.below (psW_below s d m w)).more (psW_below s d m w).size)
  clear hl hnil hr
  go_enter Tryd.func43, Tryd.ntmps43
  go_wp2_with (first
    | (go_at_call 63; refine (pseudo_any s d m hs hd w).mono ?_; rintro e w1 ⟨rfl, rfl⟩)
    | (at_builtin; refine wpList_append_full _ rfl (.tmp 11) (.tmp 12) 22 rfl 5 i0 Tryd.underlying22 hi hz0 hz1 hz2 w.heap.size 0 12 (psOf s d m) rfl rfl (by rw [psW_size]; omega) (psW_cell s d m w) (psOf_in hs hd m) A m c zs rfl HL.out hR.out HN.out (by omega) ?_; intro A' c' w2 r2 g2))
  go_ret
  exact ⟨A', c', rfl, r2, (psW_below s d m w).grown g2 (by rw [psW_size]; omega) (fun k e => by cases e)⟩

set_option maxRecDepth 100000 in
set_option maxHeartbeats 1000000 in
theorem lay_any (g n cap base : Nat) (zs : List Int) (w : World) (j : Nat) (c : Int) (hc : 0 ≤ c ∧ c ≤ 65535) (hj : j + 1 < n) (hm : n ≤ 1048576) (h : w.ownsRow base 5 1 (.slice (some ⟨g, 0, none⟩) n cap) n (zs.map (Value.int .u8))) :
    Calls Tryd.prog 41 #[.slice (some ⟨g, 0, none⟩) n cap, .int .i64 j, .int .u16 c] w fun e w' => (∃ v, e = .returned v) ∧ w' = (w.setCell ⟨g, j, none⟩ (.int .u8 (c / 256))).setCell ⟨g, j + 1, none⟩ (.int .u8 (c % 256)) := by
  have h1 := own_store h j (c / 256)
  have e1 := own_cell h j (by omega)
  have f1 := h.frozenAt j
  have e2 := own_cell h1 (j + 1) (by omega)
  have f2 := h1.frozenAt (j + 1)
  go_enter Tryd.func41, Tryd.ntmps41
  go_wp2
  go_end0
  exact ⟨⟨_, rfl⟩, rfl⟩
end Go.Proofs.YtnncmcfonkhckaaDoor

/- What 'handfast/tcp.numbersOf' and the closure that it hands back do: a head's three numbers, each with its place; what bytes become of them. -/
namespace Go.Proofs.YtnncmcfonkhckaaDoor
open Go.RowKit Go.Shelf
open SumM

attribute [local go_sem] Oper.semAt_some

/-- A place and a number of two bytes. -/
abbrev PT := { x : Nat × Int // x.1 + 2 ≤ 20 ∧ 0 ≤ x.2 ∧ x.2 ≤ 65535 }
/-- A head's numbers fit. -/
structure TNums (sp dp tf : Int) : Prop where
  h1 : 0 ≤ sp ∧ sp ≤ 65535
  h2 : 0 ≤ dp ∧ dp ≤ 65535
  h3 : 0 ≤ tf ∧ tf ≤ 255
/-- The numbers of a head. -/
def tnums (sp dp tf hd : Int) : List (Nat × Int) := [(0, sp), (2, dp), (12, hd / 4 * 4096 + tf)]
/-- What lies in n bytes behind numbers were laid there. -/
def tfill (n : Nat) (l : List (Nat × Int)) : List Int := l.foldl (fun acc x => (acc.set x.1 (x.2 / 256)).set (x.1 + 1) (x.2 % 256)) (List.replicate n 0)
theorem tfill_snoc (n : Nat) (l : List (Nat × Int)) (x : Nat × Int) : tfill n (l ++ [x]) = ((tfill n l).set x.1 (x.2 / 256)).set (x.1 + 1) (x.2 % 256) := by simp [tfill]
theorem tfill_length (n : Nat) (l : List (Nat × Int)) : (tfill n l).length = n := by
  have : ∀ (l : List (Nat × Int)) (acc : List Int), (l.foldl (fun acc x => (acc.set x.1 (x.2 / 256)).set (x.1 + 1) (x.2 % 256)) acc).length = acc.length := by
    intro l
    induction l with
    | nil => intro acc; rfl
    | cons x r ih => intro acc; rw [List.foldl_cons, ih]; simp
  rw [tfill, this, List.length_replicate]
theorem or_4096 (a b : Int) (ha : 0 ≤ a) (ha' : a ≤ 15) (hb : 0 ≤ b) (hb' : b ≤ 255) : bits .or .u16 (a * 4096) b = a * 4096 + b := by
  rw [u16_or (a * 4096) b (by omega) (by omega) hb (by omega)]
  have e : ((a * 4096).toNat ||| b.toNat : Nat) = a.toNat * 4096 + b.toNat := by
    have := Nat.shiftLeft_add_eq_or_of_lt (i := 12) (b := b.toNat) (by omega) a.toNat
    rw [Nat.shiftLeft_eq] at this
    have e2 : (a * 4096).toNat = a.toNat * 2 ^ 12 := by omega
    rw [e2]
    omega
  rw [e]
  omega

set_option maxHeartbeats 1000000 in
theorem tnumbersOf_in (n : Nat) (sp dp tf hd : Int) (da : Option Addr) (dn dc : Nat) (w : World) :
    CallsIn Fence.wide n Tryd.prog 40 #[.agg #[.int .u16 sp, .int .u16 dp, .int .u8 tf, .int .i64 hd, .slice da dn dc]] w fun e w' => e = .returned (.func (.func 61) #[] #[.pointer (some ⟨w.heap.size, 0, none⟩)]) ∧ w' = w.alloc (.cells #[.int .u16 sp, .int .u16 dp, .int .u8 tf, .int .i64 hd, .slice da dn dc] 46) := by
  refine callsIn_of_wp Tryd.func40 rfl trivial ?_ rfl
  simp only [Tryd.ntmps40, List.size_toArray, List.length_cons, List.length_nil, Nat.reduceAdd, Nat.reduceSub, Array.replicate_succ, Array.replicate_zero, List.push_toArray, List.append_toArray, List.nil_append, List.cons_append]
  gi_wp2
  go_ret
  exact ⟨rfl, rfl⟩

set_option maxRecDepth 100000 in
set_option maxHeartbeats 4000000 in
theorem tnums_in (sp dp tf hd : Int) (da : Option Addr) (dn dc : Nat) (n : Nat) (hn : 1 ≤ n) (l Bs n₀ : Nat) (H : TNums sp dp tf) (hh : 20 ≤ hd ∧ hd ≤ 60)
    (J Jx : List PT → World → Prop) (W : World)
    (hY : ∀ pre x W, J pre W → pre.length < 3 → YieldAt Fence.wide (n - 1) Tryd.prog l #[.int .i64 x.1.1, .int .u16 x.1.2] W fun e W' =>
      (e = .returned (.bool true) ∧ J (pre ++ [x]) W' ∧ KeepT n₀ [46] W W') ∨ (e = .returned (.bool false) ∧ Jx (pre ++ [x]) W'))
    (hB : W.heap[Bs]? = some (.cells #[.int .u16 sp, .int .u16 dp, .int .u8 tf, .int .i64 hd, .slice da dn dc] 46 (0, 0))) (h0 : J [] W) :
    CallsIn Fence.wide n Tryd.prog 61 #[.func (.yield l) #[] #[], .pointer (some ⟨Bs, 0, none⟩)] W fun e W' => (∃ v, e = .returned v) ∧
      ((∃ ys : List PT, ys.map (·.1) = tnums sp dp tf hd ∧ J ys W') ∨ (∃ pre, pre.length ≤ 3 ∧ Jx pre W')) := by
  refine callsIn_of_wp Tryd.func61 rfl trivial ?_ rfl
  simp only [Tryd.ntmps61, List.size_toArray, List.length_cons, List.length_nil, Nat.reduceAdd, Nat.reduceSub, Array.replicate_succ, Array.replicate_zero, List.push_toArray, List.append_toArray, List.nil_append, List.cons_append]
  obtain ⟨h1, h2, h3⟩ := H
  have ht : hd.tdiv 4 = hd / 4 := Int.tdiv_eq_ediv_of_nonneg (by omega)
  have ho := or_4096 (hd / 4) tf (by omega) (by omega) h3.1 h3.2
  obtain ⟨c0, c1, c2, c3, c4⟩ := tcp_cells _ _ _ _ _ _ _ hB
  obtain ⟨fn0, tmps0, assign0, body0, hy0, hr0⟩ := hY [] ⟨(0, sp), (by simp), h1.1, h1.2⟩ W h0 (by simp)
  have y0 : (Instr.yield l #[.int .i64 0, .int .u16 sp]).run Tryd.prog W = .ok (.round l fn0 tmps0 assign0 body0) W := hy0
  have HY := Lib.hid hY
  clear hY hy0 c2 c3 c4
  gi_wp2
  refine hr0.mono ?_
  clear hr0 y0 c0 c1
  rintro e W1 (⟨rfl, J1, k1⟩ | ⟨rfl, Jx1⟩)
  · have hB1 := k1.2 Bs _ _ _ (by simp) hB
    obtain ⟨c0, c1, c2, c3, c4⟩ := tcp_cells _ _ _ _ _ _ _ hB1
    obtain ⟨fn1, tmps1, assign1, body1, hy1, hr1⟩ := HY.out _ ⟨(2, dp), (by simp), h2.1, h2.2⟩ W1 J1 (by simp)
    have y1 : (Instr.yield l #[.int .i64 2, .int .u16 dp]).run Tryd.prog W1 = .ok (.round l fn1 tmps1 assign1 body1) W1 := hy1
    clear hy1 c2 c3 c4 c0
    gi_wp2
    refine hr1.mono ?_
    clear hr1 y1 c1
    rintro e W2 (⟨rfl, J2, k2⟩ | ⟨rfl, Jx2⟩)
    · have hB2 := k2.2 Bs _ _ _ (by simp) hB1
      obtain ⟨c0, c1, c2, c3, c4⟩ := tcp_cells _ _ _ _ _ _ _ hB2
      obtain ⟨fn2, tmps2, assign2, body2, hy2, hr2⟩ := HY.out _ ⟨(12, hd / 4 * 4096 + tf), (by simp), (by simp only; omega), (by simp only; omega)⟩ W2 J2 (by simp)
      have y2 : (Instr.yield l #[.int .i64 12, .int .u16 (hd / 4 * 4096 + tf)]).run Tryd.prog W2 = .ok (.round l fn2 tmps2 assign2 body2) W2 := hy2
      clear hy2 c0 c1 c4
      gi_wp2
      refine hr2.mono ?_
      clear hr2 y2 c2 c3
      rintro e W3 (⟨rfl, J3, k3⟩ | ⟨rfl, Jx3⟩)
      · gi_wp2
        go_end0
        exact ⟨⟨_, rfl⟩, .inl ⟨_, rfl, J3⟩⟩
      · gi_wp2
        go_end0
        exact ⟨⟨_, rfl⟩, .inr ⟨_, by simp, Jx3⟩⟩
    · gi_wp2
      go_end0
      exact ⟨⟨_, rfl⟩, .inr ⟨_, by simp, Jx2⟩⟩
  · gi_wp2
    refine ⟨fun f h => (by cases h), ?_⟩
    apply_assumption
    gi_wp2
    go_end0
    exact ⟨⟨_, rfl⟩, .inr ⟨_, by simp, Jx1⟩⟩

theorem tnums_stops (sp dp tf hd : Int) (da : Option Addr) (dn dc : Nat) (n : Nat) (hn : 1 ≤ n) (Bs n₀ : Nat) (H : TNums sp dp tf) (hh : 20 ≤ hd ∧ hd ≤ 60) (w : World) (_hn₀ : n₀ ≤ w.heap.size)
    (hB : w.heap[Bs]? = some (.cells #[.int .u16 sp, .int .u16 dp, .int .u8 tf, .int .i64 hd, .slice da dn dc] 46 (0, 0))) :
    SeqStopsK Fence.wide n Tryd.prog 61 #[.pointer (some ⟨Bs, 0, none⟩)] (fun x : PT => #[.int .i64 x.1.1, .int .u16 x.1.2]) (KeepT n₀ [46]) (fun ys => ys.map (·.1) = tnums sp dp tf hd) (fun pre => pre.length ≤ 3) 3 w := fun l J Jx W hWb _ _ hY h0 =>
  tnums_in sp dp tf hd da dn dc n hn l Bs n₀ H hh J Jx W hY ((hWb.block Bs (Array.getElem?_eq_some_iff.1 hB).1).trans hB) h0
end Go.Proofs.YtnncmcfonkhckaaDoor

/- What 'handfast/tcp.numbersIn' and the closure that it hands back do: the ten numbers of two bytes that a segment begins with, each with its place. -/
namespace Go.Proofs.YtnncmcfonkhckaaDoor
open Go.RowKit Go.Shelf
open SumM

attribute [local go_sem] Oper.semAt_some

/-- The k-th place and number. -/
def ptAt (bs : List Int) (h : In 255 bs) (k : Nat) : PT := if hk : k < 10 then ⟨(2 * k, wordAt bs k), by simp only; omega, wordAt_in h k⟩ else ⟨(0, 0), by decide⟩
theorem ptAt_val {bs : List Int} (h : In 255 bs) {k : Nat} (hk : k < 10) : (ptAt bs h k).1 = (2 * k, wordAt bs k) := by unfold ptAt; rw [dif_pos hk]

set_option maxHeartbeats 1000000 in
theorem tnumbersIn_in (n : Nat) (a : Option Addr) (len cap : Nat) (w : World) :
    CallsIn Fence.wide n Tryd.prog 59 #[.slice a len cap] w fun e w' => e = .returned (.func (.func 69) #[] #[.pointer (some ⟨w.heap.size, 0, none⟩)]) ∧ w' = w.alloc (.cells #[.slice a len cap] 22) := by
  refine callsIn_of_wp Tryd.func59 rfl trivial ?_ rfl
  simp only [Tryd.ntmps59, List.size_toArray, List.length_cons, List.length_nil, Nat.reduceAdd, Nat.reduceSub, Array.replicate_succ, Array.replicate_zero, List.push_toArray, List.append_toArray, List.nil_append, List.cons_append]
  gi_wp2
  go_ret
  exact ⟨rfl, rfl⟩

set_option maxRecDepth 100000 in
set_option maxHeartbeats 4000000 in
theorem tnumsIn_in (n : Nat) (hn : 1 ≤ n) (l Bs n₀ len cap : Nat) (a : Option Addr) (bs : List Int) (hin : In 255 bs) (hl : bs.length = len) (h20 : 20 ≤ len) (J Jx : List PT → World → Prop)
    (hY : ∀ pre x W, J pre W → pre.length < 10 → YieldAt Fence.wide (n - 1) Tryd.prog l #[.int .i64 x.1.1, .int .u16 x.1.2] W fun e W' =>
      (e = .returned (.bool true) ∧ J (pre ++ [x]) W' ∧ Keep n₀ [Bs] W W') ∨ (e = .returned (.bool false) ∧ Jx (pre ++ [x]) W'))
    (W : World) (hB : Boxed W Bs 22 (.slice a len cap)) (hR : Row .u8 n₀ W a bs) (h0 : J [] W)
    (hJ : ∀ pre W, J pre W → J pre W.drew) :
    CallsIn Fence.wide n Tryd.prog 69 #[.func (.yield l) #[] #[], .pointer (some ⟨Bs, 0, none⟩)] W fun e W' => (∃ v, e = .returned v) ∧
      ((∃ ys, ys = uptoA (ptAt bs hin) 10 ∧ J ys W') ∨ (∃ pre, pre.length ≤ 10 ∧ Jx pre W')) := by
  have HL := Lib.hid hl
  clear hl
  obtain ⟨b, off, rfl, hb, hcz⟩ := hR.2 (by rw [HL.out]; omega)
  clear hcz
  refine callsIn_of_wp Tryd.func69 rfl trivial ?_ rfl
  simp only [Tryd.ntmps69, List.size_toArray, List.length_cons, List.length_nil, Nat.reduceAdd, Nat.reduceSub, Array.replicate_succ, Array.replicate_zero, List.push_toArray, List.append_toArray, List.nil_append, List.cons_append]
  have HY := Lib.hid hY
  have HJ := Lib.hid hJ
  have HB := Lib.hid hB
  have HR := Lib.hid hR
  clear hY hB hR hJ
  gi_wp2
  gi_loopw [3] (fun i wr => ∃ k : Nat, k ≤ 10 ∧ i = .int .i64 (2 * k : Nat) ∧ J (uptoA (ptAt bs hin) k) wr ∧ Keep n₀ [Bs] W wr)
    (fun i _ => 20 - (intOf i).toNat)
  case atStart => exact ⟨0, by omega, rfl, h0, Keep.refl _ _ _⟩
  case round =>
    obtain ⟨k, hk, rfl, hJs, hnx⟩ := hrel
    by_cases hlt10 : k < 10
    · have hcB := (hnx.boxed (by simp) HB.out).cell
      obtain ⟨b', off', e', hb', hc'⟩ := (HR.out.below hnx.1).2 (by rw [HL.out]; omega)
      injection e' with e'
      injection e' with e1 e2
      subst e1 e2
      have q1 := hc' (2 * k) (by rw [HL.out]; omega)
      have q2 := hc' (2 * k + 1) (by rw [HL.out]; omega)
      clear hc'
      have b1 := getD_in hin (by decide) (2 * k)
      have b2 := getD_in hin (by decide) (2 * k + 1)
      have ho := or_word _ _ b1.1 b1.2 b2.1 b2.2
      have HO := Lib.hid ho
      obtain ⟨fn, tmps, assign, body, hy, hRd⟩ := HY.out _ (ptAt bs hin k) wr.drew (HJ.out _ _ hJs) (by rw [uptoA_length]; omega)
      rw [ptAt_val hin hlt10] at hy
      have hk0 : Keep n₀ [Bs] wr wr.drew := ⟨(Below.refl _ _).drew, fun _ _ _ h _ => h⟩
      have FIN : Hid (∀ (e : Ending) (W3 : World), ((e = .returned (.bool true) ∧ J (uptoA (ptAt bs hin) k ++ [ptAt bs hin k]) W3 ∧ Keep n₀ [Bs] wr.drew W3) ∨ (e = .returned (.bool false) ∧ Jx (uptoA (ptAt bs hin) k ++ [ptAt bs hin k]) W3)) →
          ∃ bo : Bool, e = .returned (.bool bo) ∧ Hid ((bo = true → J (uptoA (ptAt bs hin) (k + 1)) W3 ∧ Keep n₀ [Bs] W W3) ∧ (bo = false → Jx (uptoA (ptAt bs hin) (k + 1)) W3))) := Lib.hid (by
        intro e W3 h
        rw [← uptoA_succ] at h
        rcases h with ⟨h1, h2, h3⟩ | ⟨h1, h2⟩
        · refine ⟨true, h1, Lib.hid ?_⟩
          exact ⟨fun _ => ⟨h2, keep_t (keep_t hnx hk0) h3⟩, fun e => (by cases e)⟩
        · refine ⟨false, h1, Lib.hid ?_⟩
          exact ⟨fun e => (by cases e), fun _ => h2⟩)
      clear hk0 HJ
      have q3 : (2 * (k : Int)).toNat = 2 * k := by omega
      have q4 : (2 * (k : Int) + 1).toNat = 2 * k + 1 := by omega
      have q5 : 2 * (k : Int) < (len : Int) := by omega
      have q6 : 2 * (k : Int) + 1 < (len : Int) := by omega
      have q7 : IntKind.i64.wrap (2 * (k : Int) + 1) = 2 * (k : Int) + 1 := IntWalk.i64_in _ (by omega)
      have q8 : (0 : Int) ≤ 2 * (k : Int) := by omega
      have q9 : (0 : Int) ≤ 2 * (k : Int) + 1 := by omega
      have ew : wordAt bs k = bits .or .u16 (IntKind.u16.wrap (IntKind.u16.wrap (bs[2 * k]?.getD 0) * 256)) (IntKind.u16.wrap (bs[2 * k + 1]?.getD 0)) := by
        rw [IntWalk.u16_in (bs[2 * k]?.getD 0) (by omega), IntWalk.u16_in (bs[2 * k]?.getD 0 * 256) (by omega), IntWalk.u16_in (bs[2 * k + 1]?.getD 0) (by omega), ho]
        rfl
      rw [ew] at hy
      have hy' : (Instr.yield l #[.int .i64 (2 * (k : Int)), .int .u16 (bits .or .u16 (IntKind.u16.wrap (IntKind.u16.wrap (bs[2 * k]?.getD 0) * 256)) (IntKind.u16.wrap (bs[2 * k + 1]?.getD 0)))]).run Tryd.prog wr.drew = .ok (.round l fn tmps assign body) wr.drew := hy
      clear hy
      gi_wp2
      gi_region_with (refine hRd.mono ?_; intro e W3 h; obtain ⟨bo, rfl, hfin⟩ := FIN.out e W3 h)
      all_goals
        rcases bo with _ | _
        · have hx := hfin.out.2 rfl
          clear hfin
          gi_wp2
          refine bodyPost_ret (results_none rfl _ _ _) rfl ?_
          exact ⟨⟨_, rfl⟩, .inr ⟨_, by rw [uptoA_length]; omega, hx⟩⟩
        · obtain ⟨hJ3, hk3⟩ := hfin.out.1 rfl
          clear hfin
          gi_wp2
          go_roundw
          case rel => exact ⟨k + 1, by omega, by go_num, hJ3, hk3⟩
          case measure => simp [intOf]; omega
    · obtain rfl : k = 10 := by omega
      gi_wp2
      go_end0
      exact ⟨⟨_, rfl⟩, .inl ⟨_, rfl, hJs⟩⟩
theorem tnumsIn_stops (n : Nat) (hn : 1 ≤ n) (Bs n₀ len cap : Nat) (a : Option Addr) (bs : List Int) (hin : In 255 bs) (hl : bs.length = len) (h20 : 20 ≤ len) (w : World) (hn₀ : n₀ ≤ w.heap.size)
    (hB : Boxed w Bs 22 (.slice a len cap)) (hR : Row .u8 n₀ w a bs) :
    SeqStopsK Fence.wide n Tryd.prog 69 #[.pointer (some ⟨Bs, 0, none⟩)] (fun x : PT => #[.int .i64 x.1.1, .int .u16 x.1.2]) (Keep n₀ [Bs]) (fun ys => ys = uptoA (ptAt bs hin) 10) (fun pre => pre.length ≤ 10) 10 w := fun l J Jx W hW hJ _ hY h0 =>
  tnumsIn_in n hn l Bs n₀ len cap a bs hin hl h20 J Jx hY W ((hW.block Bs hB.lt).trans hB) (hR.below (hW.mono hn₀)) h0 (fun pre V h => hJ pre V V.drew none h ⟨rfl, rfl, rfl, Nat.le_refl _, fun _ _ _ => rfl⟩ (fun r e => by cases e))
end Go.Proofs.YtnncmcfonkhckaaDoor

/- What 'handfast/tcp.Put' answers. -/
namespace Go.Proofs.YtnncmcfonkhckaaDoor
open Go.RowKit Go.Shelf
open SumM

attribute [local go_sem] Oper.semAt_some

/-- A segment's head, all noughts but its numbers; the sum of a segment; what is put. -/
def thead (sp dp tf hd : Int) : List Int := tfill hd.toNat (tnums sp dp tf hd)
def tsum (s d : Int) (bs : List Int) : Int := sumOf (psOf s d bs.length ++ bs)
def tput (s d sp dp tf hd : Int) (ps : List Int) : List Int :=
  ((thead sp dp tf hd ++ ps).set 16 ((65535 - tsum s d (thead sp dp tf hd ++ ps)) / 256)).set 17 ((65535 - tsum s d (thead sp dp tf hd ++ ps)) % 256)
theorem thead_length (sp dp tf hd : Int) : (thead sp dp tf hd).length = hd.toNat := tfill_length _ _
theorem tfill_in (n : Nat) (l : List (Nat × Int)) (h : ∀ x ∈ l, 0 ≤ x.2 ∧ x.2 ≤ 65535) : In 255 (tfill n l) := by
  have : ∀ (l : List (Nat × Int)) (acc : List Int), (∀ x ∈ l, 0 ≤ x.2 ∧ x.2 ≤ 65535) → In 255 acc → In 255 (l.foldl (fun acc x => (acc.set x.1 (x.2 / 256)).set (x.1 + 1) (x.2 % 256)) acc) := by
    intro l
    induction l with
    | nil => intro acc _ h; exact h
    | cons x r ih =>
      intro acc hx ha
      rw [List.foldl_cons]
      have := hx x (by simp)
      exact ih _ (fun y hy => hx y (by simp [hy])) (in_set (in_set ha _ _ (by omega)) _ _ (by omega))
  refine this l _ h ?_
  intro x hx
  have := List.eq_of_mem_replicate hx
  omega
theorem thead_in {sp dp tf hd : Int} (H : TNums sp dp tf) (hh : 20 ≤ hd ∧ hd ≤ 60) : In 255 (thead sp dp tf hd) := by
  obtain ⟨h1, h2, h3⟩ := H
  refine tfill_in _ _ fun x hx => ?_
  simp [tnums] at hx
  rcases hx with rfl | rfl | rfl <;> simp only <;> omega

set_option maxRecDepth 100000 in
set_option maxHeartbeats 8000000 in
theorem tcpPut_in (s d : Int) (sp dp tf hd : Int) (da : Option Addr) (dn dc : Nat) (n : Nat) (hn : 4 ≤ n) (ps : List Int) (hs : 0 ≤ s ∧ s ≤ 4294967295) (hd' : 0 ≤ d ∧ d ≤ 4294967295) (H : TNums sp dp tf) (hm : mayB hd dn = true) (w : World)
    (hrp : Row .u8 w.heap.size w da ps) (hpl : ps.length = dn) (hpn : da = none → dc = 0) :
    CallsIn Fence.wide n Tryd.prog 25 #[.int .u32 s, .int .u32 d, .agg #[.int .u16 sp, .int .u16 dp, .int .u8 tf, .int .i64 hd, .slice da dn dc]] w fun e w' => ∃ A c, e = .returned (.tuple #[.slice A (hd.toNat + dn) c, .bool true]) ∧ w'.ownsRow w.heap.size 5 1 (.slice A (hd.toNat + dn) c) (hd.toNat + dn) ((tput s d sp dp tf hd ps).map (Value.int .u8)) ∧ Below w.heap.size w w' := by
  have h1n : 1 ≤ n := by omega
  obtain ⟨i0, hi, hz0, hz1, hz2⟩ := info_parts Tryd.infoU8
  obtain ⟨m1, m2, m3, m4⟩ := mayB_le hm
  obtain ⟨hN, rfl⟩ : ∃ k : Nat, hd = (k : Int) := ⟨hd.toNat, by omega⟩
  rw [Int.toNat_natCast]
  have HM := Lib.hid hm
  have HH := Lib.hid H
  have HL := Lib.hid hpl
  have HP := Lib.hid hrp
  have HZ := Lib.hid hpn
  clear hm hpl hrp hpn
  refine callsIn_of_wp_marks Tryd.func25 rfl trivial ?_ rfl
  simp only [Tryd.ntmps25, List.size_toArray, List.length_cons, List.length_nil, Nat.reduceAdd, Nat.reduceSub, Array.replicate_succ, Array.replicate_zero, List.push_toArray, List.append_toArray, List.nil_append, List.cons_append]
  gi_wp2
  rw [wpIn_wide]
  refine wp_scope_jumps 0 (fun _ _ => False) (fun _ _ => 0) rfl ?first (fun _ _ h => h.elim)
  rw [← wpIn_wide (n := n)]
  have bH := heap_alloc_new w (.cells #[.int .u16 sp, .int .u16 dp, .int .u8 tf, .int .i64 (hN : Int), .slice da dn dc] 46)
  have bB := heap_alloc_new (w.alloc (.cells #[.int .u16 sp, .int .u16 dp, .int .u8 tf, .int .i64 (hN : Int), .slice da dn dc] 46)) (.cells #[.slice none 0 0] 22)
  rw [World.size_alloc] at bB
  have bH2 := (Below.heap_alloc _ (.cells #[.slice none 0 0] 22) w.heap.size (by simp)).trans bH
  have L0 : Below w.heap.size w ((w.alloc (.cells #[.int .u16 sp, .int .u16 dp, .int .u8 tf, .int .i64 (hN : Int), .slice da dn dc] 46)).alloc (.cells #[.slice none 0 0] 22)) := ((Below.refl _ w).alloc (Nat.le_refl _) _).alloc (by simp) _
  have hs0 : ((w.alloc (.cells #[.int .u16 sp, .int .u16 dp, .int .u8 tf, .int .i64 (hN : Int), .slice da dn dc] 46)).alloc (.cells #[.slice none 0 0] 22)).heap.size = w.heap.size + 2 := by simp
  gi_wp2_with fail
  generalize (w.alloc (.cells #[.int .u16 sp, .int .u16 dp, .int .u8 tf, .int .i64 (hN : Int), .slice da dn dc] 46)).alloc (.cells #[.slice none 0 0] 22) = W0 at *
  refine ⟨trivial, (callsIn_wide.2 (mayBe_any sp dp tf hN da dn dc W0 (by omega) (by omega))).mono ?_⟩
  rintro e w1 ⟨rfl, k1⟩
  rw [HM.out]
  have c1 := (k1.block _ (by omega)).trans bH2
  have d1 : Boxed w1 (w.heap.size + 1) 22 (.slice none 0 0) := (k1.block _ (by omega)).trans bB
  have L1 := L0.trans (k1.mono L0.size)
  have s1 := k1.size
  clear bH bB bH2 L0 k1
  obtain ⟨q0, q1, q2, q3, q4⟩ := tcp_cells _ _ _ _ _ _ _ c1
  have hcB1 := d1.cell
  have hfB1 := d1.frozen
  have hw1 : IntKind.i64.wrap ((hN : Int) + dn) = (hN : Int) + dn := IntWalk.i64_in _ (by omega)
  gi_wp2_with (gi_at_make; refine wpListIn_make_lc _ rfl _ _ _ rfl w1.heap.size 5 i0 (.int .u8 0) Tryd.underlying22 hi hz0 hz1 rfl .i64 .i64 hN ((hN : Int) + dn) hN (hN + dn) rfl rfl (by omega) (by omega) (by omega) (by rw [hz2]; omega) (by unfold maxLen; omega) (Nat.le_refl _) ?_; intro w3 hown3 hgrow3; have c3 := (hgrow3.block _ (by omega) (by simp)).trans c1; have d3 := d1.kept hgrow3 (by simp); have s3 := hgrow3.size; have L3 := L1.grown hgrow3 (by omega) (fun k e => by cases e); have hcB3 := d3.cell; have hfB3 := d3.frozen; obtain ⟨q0, q1, q2, q3, q4⟩ := tcp_cells _ _ _ _ _ _ _ c3)
  refine ⟨trivial, (tnumbersOf_in (n - 1) sp dp tf hN da dn dc _).mono ?_⟩
  rintro e w5 ⟨rfl, rfl⟩
  have hlb : w.heap.size + 1 < w1.heap.size := by omega
  have O4 := own_setBelow hown3 ⟨w.heap.size + 1, 0, none⟩ hlb (.slice (some ⟨w1.heap.size, 0, none⟩) hN (hN + dn))
  have c4 := (Below.heap_setCell w3 ⟨w.heap.size + 1, 0, none⟩ (.slice (some ⟨w1.heap.size, 0, none⟩) hN (hN + dn)) w.heap.size (by simp)).trans c3
  have B4 := d3.set (.slice (some ⟨w1.heap.size, 0, none⟩) hN (hN + dn))
  have L4 := L3.setCell (p := ⟨w.heap.size + 1, 0, none⟩) (by simp) (.slice (some ⟨w1.heap.size, 0, none⟩) hN (hN + dn))
  have s4 : w1.heap.size ≤ (w3.setCell ⟨w.heap.size + 1, 0, none⟩ (.slice (some ⟨w1.heap.size, 0, none⟩) hN (hN + dn))).heap.size := by simpa using s3
  have e4 : w3.heap.size = (w3.setCell ⟨w.heap.size + 1, 0, none⟩ (.slice (some ⟨w1.heap.size, 0, none⟩) hN (hN + dn))).heap.size := by simp
  clear q0 q1 q2 q3 q4 hcB1 hfB1 hcB3 hfB3 hown3 hgrow3 c3 d3 L3 c1 d1 L1
  generalize w3.setCell ⟨w.heap.size + 1, 0, none⟩ (.slice (some ⟨w1.heap.size, 0, none⟩) hN (hN + dn)) = W4 at *
  have O4' : W4.ownsRow w1.heap.size 5 1 (.slice (some ⟨w1.heap.size, 0, none⟩) hN (hN + dn)) hN ((tfill hN []).map (Value.int .u8)) := by
    have : (tfill hN []).map (Value.int .u8) = List.replicate hN (Value.int .u8 0) := by simp [tfill]
    rw [this]
    exact O4
  clear O4
  generalize hHD : (.agg #[.int .u16 sp, .int .u16 dp, .int .u8 tf, .int .i64 (hN : Int), .slice da dn dc] : Value) = HD
  have bC := heap_alloc_new W4 (.cells #[.int .u16 sp, .int .u16 dp, .int .u8 tf, .int .i64 (hN : Int), .slice da dn dc] 46)
  have bH5 := (Below.heap_alloc W4 (.cells #[.int .u16 sp, .int .u16 dp, .int .u8 tf, .int .i64 (hN : Int), .slice da dn dc] 46) w.heap.size (by omega)).trans c4
  have B5 := B4.alloc (.cells #[.int .u16 sp, .int .u16 dp, .int .u8 tf, .int .i64 (hN : Int), .slice da dn dc] 46)
  have O5 := O4'.alloc (.cells #[.int .u16 sp, .int .u16 dp, .int .u8 tf, .int .i64 (hN : Int), .slice da dn dc] 46)
  have L5 := L4.alloc (by omega) (.cells #[.int .u16 sp, .int .u16 dp, .int .u8 tf, .int .i64 (hN : Int), .slice da dn dc] 46)
  have hz5 : (W4.alloc (.cells #[.int .u16 sp, .int .u16 dp, .int .u8 tf, .int .i64 (hN : Int), .slice da dn dc] 46)).heap.size = W4.heap.size + 1 := by simp
  clear B4 O4' L4 c4
  gi_wp2
  generalize hW5 : W4.alloc (.cells #[.int .u16 sp, .int .u16 dp, .int .u8 tf, .int .i64 (hN : Int), .slice da dn dc] 46) = V at *
  refine wpIn_rangeFunc_ownG rfl h1n (gf := 61) (lb := #[.pointer (some ⟨W4.heap.size, 0, none⟩)]) rfl trivial (enters_of Tryd.func61 (by kernel_rfl) rfl)
    (tnums_stops sp dp tf hN da dn dc (n - 1) (by omega) W4.heap.size w.heap.size HH.out ⟨by omega, by omega⟩ V (by omega) bC) keepT_t (keepT_b (by omega)) (Below.refl _ _) (fun _ => rfl)
    (fun pre W => Boxed W (w.heap.size + 1) 22 (.slice (some ⟨w1.heap.size, 0, none⟩) hN (hN + dn)) ∧ W.ownsRow w1.heap.size 5 1 (.slice (some ⟨w1.heap.size, 0, none⟩) hN (hN + dn)) hN ((tfill hN (pre.map (·.1))).map (Value.int .u8)) ∧ Below w.heap.size w W ∧ W.heap[w.heap.size]? = some (.cells #[.int .u16 sp, .int .u16 dp, .int .u8 tf, .int .i64 (hN : Int), .slice da dn dc] 46 (0, 0)) ∧ V.heap.size ≤ W.heap.size)
    (fun _ _ _ => False)
    ?own
    (fun _ _ _ _ _ hs _ _ => hs)
    ⟨B5, O5, L5, bH5, Nat.le_refl _⟩
    (fun x => { tmps := #[.int .u32 s, .int .u32 d, HD, undef, undef, .pointer (some ⟨w.heap.size, 0, none⟩), .slice none 0 0, .bool false, .pointer (some ⟨w.heap.size + 1, 0, none⟩), .int .i64 x.1.1, .int .u16 x.1.2, HD, .bool true, .bool false, .pointer (some ⟨w.heap.size, 3, none⟩), .int .i64 hN, .pointer (some ⟨w.heap.size, 3, none⟩), .int .i64 hN, .pointer (some ⟨w.heap.size, 4, none⟩), .slice da dn dc, .int .i64 dn, .int .i64 ((hN : Int) + dn), .slice (some ⟨w1.heap.size, 0, none⟩) hN (hN + dn), HD, .func (.func 61) #[] #[.pointer (some ⟨W4.heap.size, 0, none⟩)], .int .i64 x.1.1, .int .u16 x.1.2, undef, undef, undef, undef, undef, undef, undef, undef, undef, undef, undef, undef, undef, undef, undef, undef], defers := [] }) ?assign ?body ?done ?stop
  case own =>
    rintro pre W W' row ⟨hX, hO, hb, hh, hv⟩ hgr hr
    have hr2 := fun r e => (hr r e).2
    exact ⟨hX.kept hgr (fun e => by have := (hr _ e.symm).1; omega), own_abides hO hgr hr2, hb.grown hgr hb.size (fun k e => by have := (hr k e).1; omega), (hgr.block _ (by omega) (fun e => by have := (hr _ e.symm).1; omega)).trans hh, Nat.le_trans hv hgr.size⟩
  case assign =>
    intro l x W K hK
    gi_wp2
    exact hK
  case body =>
    rintro l pre x W ⟨hX, hO, hb, hh, hv⟩ hlt
    have hx := x.2
    have hcX := hX.cell
    have HA := Lib.hid (CallsIn.inRound l ((callsIn_wide (n := n - 1 - 1 - 1)).2 (lay_any w1.heap.size hN (hN + dn) w1.heap.size _ W x.1.1 x.1.2 hx.2 (by omega) (by omega) hO)))
    gi_wp2_with fail
    refine ⟨trivial, by omega, HA.out.mono ?_⟩
    rintro e W2 ⟨⟨v, rfl⟩, rfl⟩
    have O6 := own_store (own_store hO x.1.1 (x.1.2 / 256)) (x.1.1 + 1) (x.1.2 % 256)
    rw [← tfill_snoc] at O6
    have K6 := keepT_own_store (ts := [46]) hO (n₀ := w.heap.size) (by omega) (by decide) x.1.1 (.int .u8 (x.1.2 / 256))
    have K7 := keepT_t K6 (keepT_own_store (ts := [46]) (own_store hO x.1.1 (x.1.2 / 256)) (n₀ := w.heap.size) (by omega) (by decide) (x.1.1 + 1) (.int .u8 (x.1.2 % 256)))
    gi_wp2
    refine ⟨((KeepsOthers.setCell _ _ _).trans (KeepsOthers.setCell _ _ _)).from _, K7, ?_, ?_, ?_, ?_, ?_⟩
    · exact box_store (own_store hO x.1.1 (x.1.2 / 256)) (box_store hO hX (by decide) _ _) (by decide) _ _
    · rw [List.map_append]
      exact O6
    · exact (hb.setCell (p := ⟨w1.heap.size, x.1.1, none⟩) (by simp; omega) _).setCell (p := ⟨w1.heap.size, x.1.1 + 1, none⟩) (by simp; omega) _
    · exact box_store (own_store hO x.1.1 (x.1.2 / 256)) (box_store hO hh (by decide) _ _) (by decide) _ _
    · rw [World.size_setCell, World.size_setCell]; exact hv
  case done =>
    rintro D ys W hD hys ⟨hX, hO, hb, hh, hv⟩ hK
    rw [hys] at hO
    have hcX := hX.cell
    have hfX := hX.frozen
    obtain ⟨q0, q1, q2, q3, q4⟩ := tcp_cells _ _ _ _ _ _ _ hh
    simp only [Exit.inBlock, Exit.then]
    apply_assumption
    rw [wpIn_wide]
    have hth : tfill hN (tnums sp dp tf hN) = thead sp dp tf hN := by unfold thead; rw [Int.toNat_natCast]
    rw [hth] at hO
    go_wp2_with (at_builtin; refine wpList_append_row _ rfl _ _ 22 rfl w1.heap.size 5 i0 (.int .u8 0) 1 Tryd.underlying22 hi hz0 hz1 hz2 rfl _ hN _ rfl hO .u8 w.heap.size da dn dc ps rfl HL.out (HP.out.below hb) HZ.out (by unfold maxLen; omega) (by omega) (by omega) ?_; intro v6 w6 hO6 hg6; rw [← List.map_append] at hO6; obtain ⟨g6, cap6, rfl, hb6⟩ := own_form hO6 (by omega); have X6 := hX.kept hg6 (own_ne hO hlb); have hcX6 := X6.cell; have hfX6 := X6.frozen)
    have O7 := own_setBelow hO6 ⟨w.heap.size + 1, 0, none⟩ hlb (.slice (some ⟨g6, 0, none⟩) (hN + dn) cap6)
    have X7 := X6.set (.slice (some ⟨g6, 0, none⟩) (hN + dn) cap6)
    have L6 := hb.grown hg6 (by omega) (fun k e => by have := (hO.lt k e).1; omega)
    have L7 := L6.setCell (p := ⟨w.heap.size + 1, 0, none⟩) (by simp) (.slice (some ⟨g6, 0, none⟩) (hN + dn) cap6)
    have K7 := ((own_others hO hg6).trans (KeepsOthers.setCell w6 ⟨w.heap.size + 1, 0, none⟩ (.slice (some ⟨g6, 0, none⟩) (hN + dn) cap6))).same D _ hK rfl
    clear q0 q1 q2 q3 q4 hcX hfX hcX6 hfX6 X6 hO6 hg6 L6 hK hh hb hO hX hv
    generalize w6.setCell ⟨w.heap.size + 1, 0, none⟩ (.slice (some ⟨g6, 0, none⟩) (hN + dn) cap6) = W7 at *
    have hin : In 255 (thead sp dp tf hN ++ ps) := by
      intro x hx
      rcases List.mem_append.1 hx with h | h
      · exact thead_in HH.out ⟨by omega, by omega⟩ x h
      · exact row_in HP.out x h
    have R7 : Row .u8 W7.heap.size W7 (some ⟨g6, 0, none⟩) (thead sp dp tf hN ++ ps) := Row.of_own O7 (in_wf8 hin)
    have hbl : (thead sp dp tf hN ++ ps).length = hN + dn := by rw [List.length_append, thead_length, HL.out, Int.toNat_natCast]
    have hck := cr_in (tot (words (psOf s d (hN + dn : Nat) ++ (thead sp dp tf hN ++ ps))))
    have hcX := X7.cell
    have hbX : w.heap.size + 1 < W7.heap.size := X7.lt
    have TP := Lib.hid (show tput s d sp dp tf hN ps = ((thead sp dp tf hN ++ ps).set 16 ((65535 - sumOf (psOf s d (hN + dn : Nat) ++ (thead sp dp tf hN ++ ps))) / 256)).set 17 ((65535 - sumOf (psOf s d (hN + dn : Nat) ++ (thead sp dp tf hN ++ ps))) % 256) by unfold tput tsum; rw [hbl])
    have HBL := Lib.hid hbl
    have RW7 := Lib.hid (show Row .u8 W7.drew.heap.size W7.drew (some ⟨g6, 0, none⟩) (thead sp dp tf hN ++ ps) from R7)
    clear hbl R7 hin
    generalize thead sp dp tf hN ++ ps = bd at *
    have O7' : W7.ownsRow w1.heap.size 5 1 (.slice (some ⟨g6, 0, none⟩) (hN + dn) cap6) (hN + dn) (bd.map (Value.int .u8)) := O7
    clear O7
    have hPL : (psOf s d (hN + dn : Nat) ++ bd).length = 12 + (hN + dn) := by rw [List.length_append, psOf_length, HBL.out]
    have HPL := Lib.hid hPL
    clear hPL
    obtain ⟨ck, hk⟩ : ∃ k, 65535 - sumOf (psOf s d (hN + dn : Nat) ++ bd) = k := ⟨_, rfl⟩
    have hkb : 0 ≤ ck ∧ ck ≤ 65535 := by unfold sumOf at hk; omega
    rw [hk] at TP
    have HK := Lib.hid hk
    clear hk hck
    go_region_held3 (fun w' => w'.cell? ⟨w.heap.size + 1, 0, none⟩ = some (.slice (some ⟨g6, 0, none⟩) (hN + dn) cap6)) (first | with_reducible exact hcX | with_reducible exact hcX8 | with_reducible exact hcX9 | with_reducible exact hcX10 | exact hcX)
      (first
        | (go_at_call 43; refine (withPs_any s d hs hd' _ (hN + dn) cap6 bd HBL.out (by omega) _ RW7.out (fun h => by cases h)).mono ?_; rintro e w8 ⟨A8, c8, rfl, r8, m8'⟩; have m8 : Below W7.heap.size W7 w8 := below_drew m8'; have hcX8 := (m8.cell (p := ⟨w.heap.size + 1, 0, none⟩) hbX).trans hcX; have O8 := own_below O7' m8)
        | (go_at_call 42; refine (check_any A8 _ c8 (psOf s d (hN + dn : Nat) ++ bd) HPL.out (by omega) w8 r8).mono ?_; rintro e w9 ⟨he, m9⟩; rw [HK.out] at he; subst he; have hcX9 := (m9.cell (p := ⟨w.heap.size + 1, 0, none⟩) (Nat.lt_of_lt_of_le hbX m8.size)).trans hcX8; have O9 := own_below O8 m9)
        | (go_at_call 41; refine (lay_any g6 (hN + dn) cap6 w1.heap.size bd w9 16 ck hkb (by omega) (by omega) O9).mono ?_; rintro e w10 ⟨⟨v10, rfl⟩, rfl⟩; have hcX10 : ((w9.setCell ⟨g6, 16, none⟩ (.int .u8 (ck / 256))).setCell ⟨g6, 17, none⟩ (.int .u8 (ck % 256))).cell? ⟨w.heap.size + 1, 0, none⟩ = some (.slice (some ⟨g6, 0, none⟩) (hN + dn) cap6) := (by rw [World.cell?_setCell_other _ _ _ _ (by simp), World.cell?_setCell_other _ _ _ _ (by simp)]; exact hcX9)))
    have O10 := own_store (own_store O9 16 (ck / 256)) 17 (ck % 256)
    have m79 := m8.trans (m9.mono m8.size)
    have L10 := ((L7.trans (m79.mono L7.size)).setCell (p := ⟨g6, 16, none⟩) (by show w.heap.size ≤ g6; omega) (.int .u8 (ck / 256))).setCell (p := ⟨g6, 17, none⟩) (by show w.heap.size ≤ g6; omega) (.int .u8 (ck % 256))
    have K10 := ((KeepsOthers.setCell w9 ⟨g6, 16, none⟩ (.int .u8 (ck / 256))).trans (KeepsOthers.setCell _ ⟨g6, 17, none⟩ (.int .u8 (ck % 256)))).same D _ ((m79.block D (Array.getElem?_eq_some_iff.1 K7).1).trans K7) rfl
    clear O8 O9 m8 m8' m9 hcX hcX8 hcX9 RW7 O7' L7 K7 X7 m79 r8
    generalize (w9.setCell ⟨g6, 16, none⟩ (.int .u8 (ck / 256))).setCell ⟨g6, 17, none⟩ (.int .u8 (ck % 256)) = W10 at *
    go_wp2
    simp only [Exit.jump]
    refine ⟨by simp, .inl ⟨_, _, rfl, run_takeDeferred K10, ?_⟩⟩
    refine ⟨_, results_tmp2 rfl _ _ _, ?_⟩
    rw [TP.out]
    exact ⟨_, _, rfl, own_base (own_abides O10 (grownBy_putObj' W10 D (.deferred none)) (fun r e => by cases e; exact ⟨_, K10, rfl⟩)) (show w.heap.size ≤ w1.heap.size by omega), L10.trans (belowK_b (w := w) (Nat.le_refl _) W10 D _ _ (by omega) K10 rfl rfl)⟩
  case stop =>
    rintro D c pre W _ _ h _
    exact h.elim

/-- Bytes of a known number, in memory of the call's own, and yes. -/
def TPutN (n : Nat) (zs : List Int) (w : World) (e : Ending) (w' : World) : Prop :=
  ∃ A c, e = .returned (.tuple #[.slice A n c, .bool true]) ∧ w'.ownsRow w.heap.size 5 1 (.slice A n c) n (zs.map (Value.int .u8)) ∧ Below w.heap.size w w'
theorem tcpPut_yes (s d : Int) (sp dp tf hd : Int) (da : Option Addr) (dn dc : Nat) (ps : List Int) (hs : 0 ≤ s ∧ s ≤ 4294967295) (hd' : 0 ≤ d ∧ d ≤ 4294967295) (H : TNums sp dp tf) (hm : mayB hd dn = true) (w : World)
    (hrp : Row .u8 w.heap.size w da ps) (hpl : ps.length = dn) (hpn : da = none → dc = 0) :
    Calls Tryd.prog 25 #[.int .u32 s, .int .u32 d, .agg #[.int .u16 sp, .int .u16 dp, .int .u8 tf, .int .i64 hd, .slice da dn dc]] w (TPutN (hd.toNat + dn) (tput s d sp dp tf hd ps) w) :=
  callsIn_wide.1 (tcpPut_in s d sp dp tf hd da dn dc 4 (by omega) ps hs hd' H hm w hrp hpl hpn)

set_option maxRecDepth 100000 in
set_option maxHeartbeats 2000000 in
theorem tcpPut_no (s d : Int) (sp dp tf hd : Int) (da : Option Addr) (dn dc : Nat) (hh : -9223372036854775808 ≤ hd ∧ hd ≤ 9223372036854775807) (hdn : dn ≤ 281474976710656) (hm : mayB hd dn = false) (w : World) :
    Calls Tryd.prog 25 #[.int .u32 s, .int .u32 d, .agg #[.int .u16 sp, .int .u16 dp, .int .u8 tf, .int .i64 hd, .slice da dn dc]] w fun e w' => e = .returned (.tuple #[.slice none 0 0, .bool false]) ∧ Below w.heap.size w w' := by
  have HM := Lib.hid hm
  clear hm
  go_enter Tryd.func25, Tryd.ntmps25
  go_wp2
  have L0 : Below w.heap.size w ((w.alloc (.cells #[.int .u16 sp, .int .u16 dp, .int .u8 tf, .int .i64 hd, .slice da dn dc] 46)).alloc (.cells #[.slice none 0 0] 22)) := ((Below.refl _ w).alloc (Nat.le_refl _) _).alloc (by simp) _
  have bH := (Below.heap_alloc _ (.cells #[.slice none 0 0] 22) w.heap.size (by simp)).trans (heap_alloc_new w (.cells #[.int .u16 sp, .int .u16 dp, .int .u8 tf, .int .i64 hd, .slice da dn dc] 46))
  refine wp_scope_jumps 0 (fun a' w' => Below w.heap.size w w' ∧ ∃ (u0 u1 u2 u3 u4 u5 u6 u7 u8 u9 u10 u11 u12 u13 u14 u15 u16 u17 u18 u19 u20 u21 u22 u23 u24 u25 u26 u27 u28 u29 u30 u31 u32 u33 u34 u35 u36 u37 u38 u39 u40 u41 u42 : Value), a' = { tmps := #[u0, u1, u2, u3, u4, u5, u6, u7, u8, u9, u10, u11, u12, u13, u14, u15, u16, u17, u18, u19, u20, u21, u22, u23, u24, u25, u26, u27, u28, u29, u30, u31, u32, u33, u34, u35, u36, u37, u38, u39, u40, u41, u42], defers := [] }) (fun _ _ => 0) rfl ?first ?pass
  case first =>
    go_wp2_with (go_at_call 39; refine (mayBe_any sp dp tf hd da dn dc _ hh hdn).mono ?_; rintro e w1 ⟨rfl, m1⟩; have LL := L0.trans (m1.mono L0.size); clear m1; rw [HM.out])
    go_step3
    exact ⟨rfl, LL, _, _, _, _, _, _, _, _, _, _, _, _, _, _, _, _, _, _, _, _, _, _, _, _, _, _, _, _, _, _, _, _, _, _, _, _, _, _, _, _, _, _, _, rfl⟩
  case pass =>
    rintro a' w' ⟨LL, u0, u1, u2, u3, u4, u5, u6, u7, u8, u9, u10, u11, u12, u13, u14, u15, u16, u17, u18, u19, u20, u21, u22, u23, u24, u25, u26, u27, u28, u29, u30, u31, u32, u33, u34, u35, u36, u37, u38, u39, u40, u41, u42, rfl⟩
    go_wp2
    simp only [Exit.jump]
    go_ret2
    exact ⟨rfl, LL⟩
end Go.Proofs.YtnncmcfonkhckaaDoor

/- What 'handfast/tcp.Parse' answers. -/
namespace Go.Proofs.YtnncmcfonkhckaaDoor
open Go.RowKit Go.Shelf
open SumM

attribute [local go_sem] Oper.semAt_some

/-- How many bytes a segment says that its head has; why bytes are no segment; 0, if they are one. -/
def thl (bs : List Int) : Int := bs[12]?.getD 0 / 16 * 4
def twhy (s d : Int) (bs : List Int) : Int :=
  if bs.length < 20 ∨ 65535 < bs.length then 8 else if thl bs < 20 ∨ (bs.length : Int) < thl bs then 8 else if tsum s d bs ≠ 65535 then 9 else 0

theorem Tryd.infoTcp : (Tryd.prog.info? 46).map (·.size) = some 5 := by kernel_rfl
theorem results_tcp {fn : Func} {p u : Tmp} (h : fn.results = #[.cell p 46, .tmp u]) (tmps : Array Value) (w : World) (g : Nat) (cs : Array Value) (fr : Nat × Nat)
    (hp : tmps.getD p undef = .pointer (some ⟨g, 0, none⟩)) (hg : w.heap[g]? = some (.cells cs 46 fr)) (h9 : cs.size = 5) :
    (results fn tmps).run Tryd.prog w = .ok (.tuple #[.agg cs, tmps.getD u undef]) w := by
  rw [results_cell_tmp h, hp]
  simp only [asAddr, Sem.run_pure, Result.andThen_ok]
  rw [run_loadVar_row w g 46 46 cs fr _ hg Tryd.underlying46 rfl (by rw [h9]; exact Tryd.infoTcp)]
  rfl
theorem tcp_frozen {w : World} {b : Nat} {cs : Array Value} {t : TypeId} (h : w.heap[b]? = some (.cells cs t (0, 0))) (i : Nat) : w.frozen? ⟨b, i, none⟩ = false := by simp [World.frozen?, h]

set_option maxRecDepth 100000 in
set_option maxHeartbeats 2000000 in
theorem tcpParse_short (s d : Int) (a : Option Addr) (len cap : Nat) (hl : len < 20 ∨ 65535 < len) (w : World) :
    Calls Tryd.prog 38 #[.int .u32 s, .int .u32 d, .slice a len cap] w fun e w' => e = .returned (.tuple #[.agg #[.int .u16 0, .int .u16 0, .int .u8 0, .int .i64 0, .slice none 0 0], .int .u8 8]) ∧ Below w.heap.size w w' := by
  have d0 := heap_alloc_new w (.cells #[.int .u16 0, .int .u16 0, .int .u8 0, .int .i64 0, .slice none 0 0] 46)
  have L0 : Below w.heap.size w (w.alloc (.cells #[.int .u16 0, .int .u16 0, .int .u8 0, .int .i64 0, .slice none 0 0] 46)) := (Below.refl _ w).alloc (Nat.le_refl _) _
  have D1 := Lib.hid d0
  have L0 := Lib.hid L0
  clear d0
  go_enter Tryd.func38, Tryd.ntmps38
  go_wp2
  refine wp_scope_jumps 0 (fun a' w' => ∃ (y : Int) (u0 u1 u2 u3 u4 u5 u8 u9 u10 u11 u12 u13 u14 u15 u16 u17 u18 u19 u20 u21 u22 u23 u24 u25 u26 u27 u28 u29 u30 u31 u32 u33 u34 u35 u36 u37 u38 u39 u40 u41 u42 u43 u44 u45 u46 u47 u48 u49 u50 u51 u52 u53 u54 u55 u56 u57 u58 u59 u60 u61 u62 u63 u64 u65 : Value), a' = { tmps := #[u0, u1, u2, u3, u4, u5, .pointer (some ⟨w.heap.size, 0, none⟩), .int .u8 y, u8, u9, u10, u11, u12, u13, u14, u15, u16, u17, u18, u19, u20, u21, u22, u23, u24, u25, u26, u27, u28, u29, u30, u31, u32, u33, u34, u35, u36, u37, u38, u39, u40, u41, u42, u43, u44, u45, u46, u47, u48, u49, u50, u51, u52, u53, u54, u55, u56, u57, u58, u59, u60, u61, u62, u63, u64, u65], defers := [] } ∧ y = 8 ∧ w'.heap[w.heap.size]? = some (.cells #[.int .u16 0, .int .u16 0, .int .u8 0, .int .i64 0, .slice none 0 0] 46 (0, 0)) ∧ Below w.heap.size w w') (fun _ _ => 0) rfl ?first ?pass
  case first =>
    rcases hl with hl | hl
    · have q1 : decide ((len : Int) < 20) = true := decide_eq_true (by omega)
      go_wp2
      go_step3
      exact ⟨rfl, 8, _, _, _, _, _, _, _, _, _, _, _, _, _, _, _, _, _, _, _, _, _, _, _, _, _, _, _, _, _, _, _, _, _, _, _, _, _, _, _, _, _, _, _, _, _, _, _, _, _, _, _, _, _, _, _, _, _, _, _, _, _, _, _, _, rfl, rfl, D1.out, L0.out⟩
    · have q1 : decide ((len : Int) < 20) = false := decide_eq_false (by omega)
      have q2 : decide ((65535 : Int) < len) = true := decide_eq_true (by omega)
      go_wp2
      go_step3
      exact ⟨rfl, 8, _, _, _, _, _, _, _, _, _, _, _, _, _, _, _, _, _, _, _, _, _, _, _, _, _, _, _, _, _, _, _, _, _, _, _, _, _, _, _, _, _, _, _, _, _, _, _, _, _, _, _, _, _, _, _, _, _, _, _, _, _, _, _, _, rfl, rfl, D1.out, L0.out⟩
  case pass =>
    rintro a' w' ⟨y, u0, u1, u2, u3, u4, u5, u8, u9, u10, u11, u12, u13, u14, u15, u16, u17, u18, u19, u20, u21, u22, u23, u24, u25, u26, u27, u28, u29, u30, u31, u32, u33, u34, u35, u36, u37, u38, u39, u40, u41, u42, u43, u44, u45, u46, u47, u48, u49, u50, u51, u52, u53, u54, u55, u56, u57, u58, u59, u60, u61, u62, u63, u64, u65, rfl, rfl, hd, LL⟩
    obtain ⟨q0, q1, q2, q3, q4⟩ := tcp_cells _ _ _ _ _ _ _ hd
    have f0 := tcp_frozen hd 0
    have f1 := tcp_frozen hd 1
    have f2 := tcp_frozen hd 2
    have f3 := tcp_frozen hd 3
    have f4 := tcp_frozen hd 4
    have C5 := Lib.hid (full_setCells hd [.int .u16 0, .int .u16 0, .int .u8 0, .int .i64 0, .slice none 0 0] rfl)
    have L5 := Lib.hid (below_setCells w.heap.size (Nat.le_refl _) [.int .u16 0, .int .u16 0, .int .u8 0, .int .i64 0, .slice none 0 0] 0 w _ LL)
    go_wp2
    simp only [Exit.jump]
    refine bodyPost_ret (results_tcp rfl _ _ w.heap.size _ (0, 0) rfl C5.out rfl) rfl ?_
    exact ⟨rfl, L5.out⟩
end Go.Proofs.YtnncmcfonkhckaaDoor
