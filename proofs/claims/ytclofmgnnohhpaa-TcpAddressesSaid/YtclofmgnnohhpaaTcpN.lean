/- What 'handfast/tcp.numbersOf' and the closure that it hands back do: a head's three numbers, each with its place; what bytes become of them. -/
import Derived.Test.YtclofmgnnohhpaaTcpA
namespace Go.Proofs.Ytclofmgnnohhpaa
open Go.RowKit Go.Shelf
open SumM

attribute [local go_sem] Oper.semAt_some

/-- A place and a number of two bytes. -/
abbrev PT := { x : Nat × Int // x.1 + 2 ≤ 20 ∧ 0 ≤ x.2 ∧ x.2 ≤ 65535 }
/-- A head's numbers fit. -/
structure TNums (sp dp tf : Int) : Prop where
  h1 : 0 ≤ sp ∧ sp ≤ 65535
  h2 : 0 ≤ dp ∧ dp ≤ 65535
  h3 : 0 ≤ tf ∧ tf ≤ 255
/-- The numbers of a head. -/
def tnums (sp dp tf hd : Int) : List (Nat × Int) := [(0, sp), (2, dp), (12, hd / 4 * 4096 + tf)]
/-- What lies in n bytes behind numbers were laid there. -/
def tfill (n : Nat) (l : List (Nat × Int)) : List Int := l.foldl (fun acc x => (acc.set x.1 (x.2 / 256)).set (x.1 + 1) (x.2 % 256)) (List.replicate n 0)
theorem tfill_snoc (n : Nat) (l : List (Nat × Int)) (x : Nat × Int) : tfill n (l ++ [x]) = ((tfill n l).set x.1 (x.2 / 256)).set (x.1 + 1) (x.2 % 256) := by simp [tfill]
theorem tfill_length (n : Nat) (l : List (Nat × Int)) : (tfill n l).length = n := by
  have : ∀ (l : List (Nat × Int)) (acc : List Int), (l.foldl (fun acc x => (acc.set x.1 (x.2 / 256)).set (x.1 + 1) (x.2 % 256)) acc).length = acc.length := by
    intro l
    induction l with
    | nil => intro acc; rfl
    | cons x r ih => intro acc; rw [List.foldl_cons, ih]; simp
  rw [tfill, this, List.length_replicate]
theorem or_4096 (a b : Int) (ha : 0 ≤ a) (ha' : a ≤ 15) (hb : 0 ≤ b) (hb' : b ≤ 255) : bits .or .u16 (a * 4096) b = a * 4096 + b := by
  rw [u16_or (a * 4096) b (by omega) (by omega) hb (by omega)]
  have e : ((a * 4096).toNat ||| b.toNat : Nat) = a.toNat * 4096 + b.toNat := by
    have := Nat.shiftLeft_add_eq_or_of_lt (i := 12) (b := b.toNat) (by omega) a.toNat
    rw [Nat.shiftLeft_eq] at this
    have e2 : (a * 4096).toNat = a.toNat * 2 ^ 12 := by omega
    rw [e2]
    omega
  rw [e]
  omega

set_option maxHeartbeats 1000000 in
theorem tnumbersOf_in (n : Nat) (sp dp tf hd : Int) (da : Option Addr) (dn dc : Nat) (w : World) :
    CallsIn Fence.wide n Try.prog 25 #[.agg #[.int .u16 sp, .int .u16 dp, .int .u8 tf, .int .i64 hd, .slice da dn dc]] w fun e w' => e = .returned (.func (.func 35) #[] #[.pointer (some ⟨w.heap.size, 0, none⟩)]) ∧ w' = w.alloc (.cells #[.int .u16 sp, .int .u16 dp, .int .u8 tf, .int .i64 hd, .slice da dn dc] 26) := by
  refine callsIn_of_wp Try.func25 rfl trivial ?_ rfl
  simp only [Try.ntmps25, List.size_toArray, List.length_cons, List.length_nil, Nat.reduceAdd, Nat.reduceSub, Array.replicate_succ, Array.replicate_zero, List.push_toArray, List.append_toArray, List.nil_append, List.cons_append]
  gi_wp2
  go_ret
  exact ⟨rfl, rfl⟩

set_option maxRecDepth 100000 in
set_option maxHeartbeats 4000000 in
theorem tnums_in (sp dp tf hd : Int) (da : Option Addr) (dn dc : Nat) (n : Nat) (hn : 1 ≤ n) (l Bs n₀ : Nat) (H : TNums sp dp tf) (hh : 20 ≤ hd ∧ hd ≤ 60)
    (J Jx : List PT → World → Prop) (W : World)
    (hY : ∀ pre x W, J pre W → pre.length < 3 → YieldAt Fence.wide (n - 1) Try.prog l #[.int .i64 x.1.1, .int .u16 x.1.2] W fun e W' =>
      (e = .returned (.bool true) ∧ J (pre ++ [x]) W' ∧ KeepT n₀ [26] W W') ∨ (e = .returned (.bool false) ∧ Jx (pre ++ [x]) W'))
    (hB : W.heap[Bs]? = some (.cells #[.int .u16 sp, .int .u16 dp, .int .u8 tf, .int .i64 hd, .slice da dn dc] 26 (0, 0))) (h0 : J [] W) :
    CallsIn Fence.wide n Try.prog 35 #[.func (.yield l) #[] #[], .pointer (some ⟨Bs, 0, none⟩)] W fun e W' => (∃ v, e = .returned v) ∧
      ((∃ ys : List PT, ys.map (·.1) = tnums sp dp tf hd ∧ J ys W') ∨ (∃ pre, pre.length ≤ 3 ∧ Jx pre W')) := by
  refine callsIn_of_wp Try.func35 rfl trivial ?_ rfl
  simp only [Try.ntmps35, List.size_toArray, List.length_cons, List.length_nil, Nat.reduceAdd, Nat.reduceSub, Array.replicate_succ, Array.replicate_zero, List.push_toArray, List.append_toArray, List.nil_append, List.cons_append]
  obtain ⟨h1, h2, h3⟩ := H
  have ht : hd.tdiv 4 = hd / 4 := Int.tdiv_eq_ediv_of_nonneg (by omega)
  have ho := or_4096 (hd / 4) tf (by omega) (by omega) h3.1 h3.2
  obtain ⟨c0, c1, c2, c3, c4⟩ := tcp_cells _ _ _ _ _ _ _ hB
  obtain ⟨fn0, tmps0, assign0, body0, hy0, hr0⟩ := hY [] ⟨(0, sp), (by simp), h1.1, h1.2⟩ W h0 (by simp)
  have y0 : (Instr.yield l #[.int .i64 0, .int .u16 sp]).run Try.prog W = .ok (.round l fn0 tmps0 assign0 body0) W := hy0
  have HY := Lib.hid hY
  clear hY hy0 c2 c3 c4
  gi_wp2
  refine hr0.mono ?_
  clear hr0 y0 c0 c1
  rintro e W1 (⟨rfl, J1, k1⟩ | ⟨rfl, Jx1⟩)
  · have hB1 := k1.2 Bs _ _ _ (by simp) hB
    obtain ⟨c0, c1, c2, c3, c4⟩ := tcp_cells _ _ _ _ _ _ _ hB1
    obtain ⟨fn1, tmps1, assign1, body1, hy1, hr1⟩ := HY.out _ ⟨(2, dp), (by simp), h2.1, h2.2⟩ W1 J1 (by simp)
    have y1 : (Instr.yield l #[.int .i64 2, .int .u16 dp]).run Try.prog W1 = .ok (.round l fn1 tmps1 assign1 body1) W1 := hy1
    clear hy1 c2 c3 c4 c0
    gi_wp2
    refine hr1.mono ?_
    clear hr1 y1 c1
    rintro e W2 (⟨rfl, J2, k2⟩ | ⟨rfl, Jx2⟩)
    · have hB2 := k2.2 Bs _ _ _ (by simp) hB1
      obtain ⟨c0, c1, c2, c3, c4⟩ := tcp_cells _ _ _ _ _ _ _ hB2
      obtain ⟨fn2, tmps2, assign2, body2, hy2, hr2⟩ := HY.out _ ⟨(12, hd / 4 * 4096 + tf), (by simp), (by simp only; omega), (by simp only; omega)⟩ W2 J2 (by simp)
      have y2 : (Instr.yield l #[.int .i64 12, .int .u16 (hd / 4 * 4096 + tf)]).run Try.prog W2 = .ok (.round l fn2 tmps2 assign2 body2) W2 := hy2
      clear hy2 c0 c1 c4
      gi_wp2
      refine hr2.mono ?_
      clear hr2 y2 c2 c3
      rintro e W3 (⟨rfl, J3, k3⟩ | ⟨rfl, Jx3⟩)
      · gi_wp2
        go_end0
        exact ⟨⟨_, rfl⟩, .inl ⟨_, rfl, J3⟩⟩
      · gi_wp2
        go_end0
        exact ⟨⟨_, rfl⟩, .inr ⟨_, by simp, Jx3⟩⟩
    · gi_wp2
      go_end0
      exact ⟨⟨_, rfl⟩, .inr ⟨_, by simp, Jx2⟩⟩
  · gi_wp2
    refine ⟨fun f h => (by cases h), ?_⟩
    apply_assumption
    gi_wp2
    go_end0
    exact ⟨⟨_, rfl⟩, .inr ⟨_, by simp, Jx1⟩⟩

theorem tnums_stops (sp dp tf hd : Int) (da : Option Addr) (dn dc : Nat) (n : Nat) (hn : 1 ≤ n) (Bs n₀ : Nat) (H : TNums sp dp tf) (hh : 20 ≤ hd ∧ hd ≤ 60) (w : World) (_hn₀ : n₀ ≤ w.heap.size)
    (hB : w.heap[Bs]? = some (.cells #[.int .u16 sp, .int .u16 dp, .int .u8 tf, .int .i64 hd, .slice da dn dc] 26 (0, 0))) :
    SeqStopsK Fence.wide n Try.prog 35 #[.pointer (some ⟨Bs, 0, none⟩)] (fun x : PT => #[.int .i64 x.1.1, .int .u16 x.1.2]) (KeepT n₀ [26]) (fun ys => ys.map (·.1) = tnums sp dp tf hd) (fun pre => pre.length ≤ 3) 3 w := fun l J Jx W hWb _ _ hY h0 =>
  tnums_in sp dp tf hd da dn dc n hn l Bs n₀ H hh J Jx W hY ((hWb.block Bs (Array.getElem?_eq_some_iff.1 hB).1).trans hB) h0
end Go.Proofs.Ytclofmgnnohhpaa
