/- Package packet: the looks come by a range over a function: what the iterator hands out, and what holds of it there. -/
import Derived.Test.YtnncmcfonkhckaaDoorPkE
namespace Go.Proofs.YtnncmcfonkhckaaDoor
open Go.RowKit Go.Shelf
open SumM

set_option maxHeartbeats 1000000 in
theorem looksAt_in (n : Nat) (a : Option Addr) (len cap pb : Nat) (w : World) :
    CallsIn Fence.wide n Tryd.prog 23 #[.slice a len cap, .pointer (some ⟨pb, 0, none⟩)] w fun e w' => e = .returned (.func (.func 33) #[] #[.pointer (some ⟨w.heap.size, 0, none⟩), .pointer (some ⟨w.heap.size + 1, 0, none⟩)]) ∧
      w' = (w.alloc (.cells #[.slice a len cap] 22)).alloc (.cells #[.pointer (some ⟨pb, 0, none⟩)] 54) := by
  refine callsIn_of_wp Tryd.func23 rfl trivial ?_ rfl
  simp only [Tryd.ntmps23, List.size_toArray, List.length_cons, List.length_nil, Nat.reduceAdd, Nat.reduceSub, Array.replicate_succ, Array.replicate_zero, List.push_toArray, List.append_toArray, List.nil_append, List.cons_append]
  gi_wp2
  go_ret
  exact ⟨rfl, rfl⟩

/-- A look, by its place in the row, and where the head that the looks share lies. -/
def lookAt (Bb Bp : Nat) (x : Nat × Nat) : Value :=
  if x.1 = 0 then .func (.func 34) #[] #[.pointer (some ⟨Bb, 0, none⟩), .pointer (some ⟨x.2, 0, none⟩)]
  else if x.1 = 1 then .func (.func 36) #[] #[.pointer (some ⟨x.2, 0, none⟩)]
  else .func (.func 37) #[] #[.pointer (some ⟨x.2, 0, none⟩), .pointer (some ⟨Bp, 0, none⟩)]
/-- Which look comes behind those that came, and what holds there. -/
def LookOk (n₀ : Nat) (pre : List (Nat × Nat)) (x : Nat × Nat) (W : World) : Prop :=
  (pre = [] ∧ x.1 = 0 ∧ n₀ ≤ x.2 ∧ W.heap[x.2]? = some (.cells #[.int .u8 0, .int .u16 0, .int .u16 0, .int .u8 0, .int .u8 0, .int .u32 0, .int .u32 0, .slice none 0 0, .slice none 0 0] 42 (0, 0))) ∨
  (∃ hb, pre = [(0, hb)] ∧ x = (1, hb)) ∨ (∃ hb, pre = [(0, hb), (1, hb)] ∧ x = (2, hb))

set_option maxRecDepth 100000 in
set_option maxHeartbeats 4000000 in
theorem looks_in (n : Nat) (hn : 1 ≤ n) (l Bb Bp n₀ : Nat) (J Jx : List (Nat × Nat) → World → Prop) (W : World) (hn₀ : n₀ ≤ W.heap.size) (hN : ∀ pre V o, J pre V → J pre (V.alloc o))
    (hY : ∀ pre x V, J pre V → LookOk n₀ pre x V → YieldAt Fence.wide (n - 1) Tryd.prog l #[lookAt Bb Bp x] V fun e V' => (e = .returned (.bool true) ∧ J (pre ++ [x]) V' ∧ True) ∨ (e = .returned (.bool false) ∧ Jx (pre ++ [x]) V'))
    (h0 : J [] W) :
    CallsIn Fence.wide n Tryd.prog 33 #[.func (.yield l) #[] #[], .pointer (some ⟨Bb, 0, none⟩), .pointer (some ⟨Bp, 0, none⟩)] W fun e W' => (∃ v, e = .returned v) ∧
      ((∃ xs, (∃ hb, xs = [(0, hb), (1, hb), (2, hb)]) ∧ J xs W') ∨ (∃ pre, True ∧ Jx pre W')) := by
  refine callsIn_of_wp Tryd.func33 rfl trivial ?_ rfl
  simp only [Tryd.ntmps33, List.size_toArray, List.length_cons, List.length_nil, Nat.reduceAdd, Nat.reduceSub, Array.replicate_succ, Array.replicate_zero, List.push_toArray, List.append_toArray, List.nil_append, List.cons_append]
  have hd := heap_alloc_new W (.cells #[.int .u8 0, .int .u16 0, .int .u16 0, .int .u8 0, .int .u8 0, .int .u32 0, .int .u32 0, .slice none 0 0, .slice none 0 0] 42)
  obtain ⟨fn0, tmps0, assign0, body0, hy0, hr0⟩ := hY [] (0, W.heap.size) _ (hN _ _ (.cells #[.int .u8 0, .int .u16 0, .int .u16 0, .int .u8 0, .int .u8 0, .int .u32 0, .int .u32 0, .slice none 0 0, .slice none 0 0] 42) h0) (.inl ⟨rfl, rfl, hn₀, hd⟩)
  have y0 : (Instr.yield l #[.func (.func 34) #[] #[.pointer (some ⟨Bb, 0, none⟩), .pointer (some ⟨W.heap.size, 0, none⟩)]]).run Tryd.prog _ = .ok (.round l fn0 tmps0 assign0 body0) _ := hy0
  have HY := Lib.hid hY
  clear hY hy0 hd h0 hN hn₀
  gi_wp2
  refine hr0.mono ?_
  clear hr0 y0
  rintro e W1 (⟨rfl, J1, _⟩ | ⟨rfl, Jx1⟩)
  · obtain ⟨fn1, tmps1, assign1, body1, hy1, hr1⟩ := HY.out _ (1, W.heap.size) W1 J1 (.inr (.inl ⟨_, rfl, rfl⟩))
    have y1 : (Instr.yield l #[.func (.func 36) #[] #[.pointer (some ⟨W.heap.size, 0, none⟩)]]).run Tryd.prog W1 = .ok (.round l fn1 tmps1 assign1 body1) W1 := hy1
    clear hy1
    gi_wp2
    refine hr1.mono ?_
    clear hr1 y1
    rintro e W2 (⟨rfl, J2, _⟩ | ⟨rfl, Jx2⟩)
    · obtain ⟨fn2, tmps2, assign2, body2, hy2, hr2⟩ := HY.out _ (2, W.heap.size) W2 J2 (.inr (.inr ⟨_, rfl, rfl⟩))
      have y2 : (Instr.yield l #[.func (.func 37) #[] #[.pointer (some ⟨W.heap.size, 0, none⟩), .pointer (some ⟨Bp, 0, none⟩)]]).run Tryd.prog W2 = .ok (.round l fn2 tmps2 assign2 body2) W2 := hy2
      clear hy2
      gi_wp2
      refine hr2.mono ?_
      clear hr2 y2
      rintro e W3 (⟨rfl, J3, _⟩ | ⟨rfl, Jx3⟩)
      · gi_wp2
        go_end0
        exact ⟨⟨_, rfl⟩, .inl ⟨_, ⟨_, rfl⟩, J3⟩⟩
      · gi_wp2
        go_end0
        exact ⟨⟨_, rfl⟩, .inr ⟨_, trivial, Jx3⟩⟩
    · gi_wp2
      go_end0
      exact ⟨⟨_, rfl⟩, .inr ⟨_, trivial, Jx2⟩⟩
  · gi_wp2
    refine ⟨fun f h => (by cases h), ?_⟩
    apply_assumption
    gi_wp2
    go_end0
    exact ⟨⟨_, rfl⟩, .inr ⟨_, trivial, Jx1⟩⟩

theorem looks_ok (n : Nat) (hn : 1 ≤ n) (Bb Bp n₀ : Nat) (w : World) (hn₀ : n₀ ≤ w.heap.size) :
    SeqOk Fence.wide n Tryd.prog 33 #[.pointer (some ⟨Bb, 0, none⟩), .pointer (some ⟨Bp, 0, none⟩)] (fun x : Nat × Nat => #[lookAt Bb Bp x]) (LookOk n₀) (fun _ _ => True) (fun xs => ∃ hb, xs = [(0, hb), (1, hb), (2, hb)]) (fun _ => True) w :=
  fun l J Jx W hW hN hY h0 => looks_in n hn l Bb Bp n₀ J Jx W (Nat.le_trans hn₀ hW.size) hN hY h0

theorem LookOk.turn {n₀ B : Nat} (pre : List (Nat × Nat)) (x : Nat × Nat) (W : World) (l : Nat) (o o' : Obj) (h : LookOk n₀ pre x W) (_ : B ≤ l) (hl : W.heap[l]? = some o) (hc : o.isCells = false) : LookOk n₀ pre x (W.putObj l o') := by
  rcases h with ⟨h1, h2, h3, h4⟩ | h | h
  · refine .inl ⟨h1, h2, h3, (World.putObj_heap_other ?_).trans h4⟩
    intro e
    subst e
    rw [h4] at hl
    cases hl
    cases hc
  · exact .inr (.inl h)
  · exact .inr (.inr h)
end Go.Proofs.YtnncmcfonkhckaaDoor
