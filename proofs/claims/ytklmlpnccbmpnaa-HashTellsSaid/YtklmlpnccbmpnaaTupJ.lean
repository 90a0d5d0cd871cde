/- Package tuple: Bytes, numberIn, Take, Back. -/
import Derived.Test.YtklmlpnccbmpnaaTupI
namespace Go.Proofs.Ytklmlpnccbmpnaa
open Go.RowKit Go.Shelf
open SumM

/-- Tuples handed back in memory that the call may have made. -/
def TRowRet (us : List Tup) (w : World) (e : Ending) (w' : World) : Prop :=
  ∃ A c, e = .returned (.slice A us.length c) ∧ TRow w'.heap.size w' A us ∧ Below w.heap.size w w'
/-- Twelve bytes handed back. -/
def BRet (zs : List Int) (w : World) (e : Ending) (w' : World) : Prop :=
  ∃ A c, e = .returned (.slice A 12 c) ∧ 12 ≤ c ∧ Row .u8 w'.heap.size w' A zs ∧ Below w.heap.size w w'

theorem be4 (m : Int) : be 4 m = [m / 16777216 % 256, m / 65536 % 256, m / 256 % 256, m % 256] := by
  simp [be, upto, List.range_succ]
theorem be2 (m : Int) : be 2 m = [m / 256 % 256, m % 256] := by
  simp [be, upto, List.range_succ]

theorem step4_in (n : Nat) (hn : 3 ≤ n) (n0 B : Nat) (m : Int) (hm : 0 ≤ m ∧ m ≤ 4294967295) (v : Value) (xs : List Value) (w : World) (hn0 : n0 ≤ 100) (hB : B ≤ w.heap.size) (hown : w.ownsRow B 5 1 v n0 xs) :
    CallsIn Fence.wide n Try.prog 60 #[v, .func (.func 79) #[] #[.pointer (some ⟨w.heap.size + 1, 0, none⟩), .pointer (some ⟨w.heap.size, 0, none⟩)]] ((w.alloc (.cells #[.int .u32 m] 23)).alloc (.cells #[.int .i64 4] 3)) fun e w' =>
      ∃ v', e = .returned v' ∧ w'.ownsRow B 5 1 v' (n0 + 4) (xs ++ [m / 16777216 % 256, m / 65536 % 256, m / 256 % 256, m % 256].map (Value.int .u8)) ∧ Below B w w' := by
  have bN := (Boxed.new w 23 (.int .u32 m)).alloc (.cells #[.int .i64 4] 3)
  have bW := Boxed.new (w.alloc (.cells #[.int .u32 m] 23)) 3 (.int .i64 4)
  rw [World.size_alloc] at bW
  have L0 : Below B w ((w.alloc (.cells #[.int .u32 m] 23)).alloc (.cells #[.int .i64 4] 3)) := ((Below.refl _ w).alloc hB _).alloc (by simp; omega) _
  have h := appendSeqB_in n hn w.heap.size (w.heap.size + 1) 4 n0 B m (.inl rfl) hm v xs _ hn0 bN bW (by simp; omega) ((hown.alloc (.cells #[.int .u32 m] 23)).alloc (.cells #[.int .i64 4] 3))
  rw [be4] at h
  exact h.mono fun e w' ⟨v', h1, h2, h3⟩ => ⟨v', h1, h2, L0.trans h3⟩

theorem step2_in (n : Nat) (hn : 3 ≤ n) (n0 B : Nat) (m : Int) (hm : 0 ≤ m ∧ m ≤ 4294967295) (v : Value) (xs : List Value) (w : World) (hn0 : n0 ≤ 100) (hB : B ≤ w.heap.size) (hown : w.ownsRow B 5 1 v n0 xs) :
    CallsIn Fence.wide n Try.prog 60 #[v, .func (.func 79) #[] #[.pointer (some ⟨w.heap.size + 1, 0, none⟩), .pointer (some ⟨w.heap.size, 0, none⟩)]] ((w.alloc (.cells #[.int .u32 m] 23)).alloc (.cells #[.int .i64 2] 3)) fun e w' =>
      ∃ v', e = .returned v' ∧ w'.ownsRow B 5 1 v' (n0 + 2) (xs ++ [m / 256 % 256, m % 256].map (Value.int .u8)) ∧ Below B w w' := by
  have bN := (Boxed.new w 23 (.int .u32 m)).alloc (.cells #[.int .i64 2] 3)
  have bW := Boxed.new (w.alloc (.cells #[.int .u32 m] 23)) 3 (.int .i64 2)
  rw [World.size_alloc] at bW
  have L0 : Below B w ((w.alloc (.cells #[.int .u32 m] 23)).alloc (.cells #[.int .i64 2] 3)) := ((Below.refl _ w).alloc hB _).alloc (by simp; omega) _
  have h := appendSeqB_in n hn w.heap.size (w.heap.size + 1) 2 n0 B m (.inr rfl) hm v xs _ hn0 bN bW (by simp; omega) ((hown.alloc (.cells #[.int .u32 m] 23)).alloc (.cells #[.int .i64 2] 3))
  rw [be2] at h
  exact h.mono fun e w' ⟨v', h1, h2, h3⟩ => ⟨v', h1, h2, L0.trans h3⟩

set_option maxRecDepth 100000 in
set_option maxHeartbeats 2000000 in
theorem tBytes_own (ts td tp tq : Int) (H : UNums ts td tp tq) (w : World) :
    Calls Try.prog 37 #[.agg #[.int .u32 ts, .int .u32 td, .int .u16 tp, .int .u16 tq]] w (RowN 12 (tupB ts td tp tq) w) := by
  obtain ⟨i0, hi, hz0, hz1, hz2⟩ := info_parts Try.infoU8
  obtain ⟨h1, h2, h3, h4⟩ := H
  have bH := heap_alloc_new w (.cells #[.int .u32 ts, .int .u32 td, .int .u16 tp, .int .u16 tq] 26)
  have L0 := (Below.refl w.heap.size w).alloc (Nat.le_refl _) (.cells #[.int .u32 ts, .int .u32 td, .int .u16 tp, .int .u16 tq] 26)
  have hz : w.heap.size < (w.alloc (.cells #[.int .u32 ts, .int .u32 td, .int .u16 tp, .int .u16 tq] 26)).heap.size := by simp
  refine (callsIn_wide (n := 4)).1 ?_
  refine callsIn_of_wp Try.func37 rfl trivial ?_ rfl
  simp only [Try.ntmps37, List.size_toArray, List.length_cons, List.length_nil, Nat.reduceAdd, Nat.reduceSub, Array.replicate_succ, Array.replicate_zero, List.push_toArray, List.append_toArray, List.nil_append, List.cons_append]
  have CS := Lib.hid (fun W (m : Below (w.heap.size + 1) (w.alloc (.cells #[.int .u32 ts, .int .u32 td, .int .u16 tp, .int .u16 tq] 26)) W) => tup_cells _ _ _ _ ((m.block _ (by omega)).trans bH))
  have L0 := Lib.hid L0
  clear bH hz
  gi_wp2_with (first
    | (gi_at_make; refine wpListIn_make_own _ rfl _ _ 22 rfl (w.heap.size + 1) 5 i0 (.int .u8 0) 1 Try.underlying22 hi hz0 hz1 .i64 .i64 _ 12 rfl rfl (by omega) (by rw [hz2]; omega) (by unfold maxLen; omega) (by simp) ?_; intro w1 O1 g1; rw [World.size_alloc] at O1; have m1 := (Below.refl (w.heap.size + 1) _).grown g1 (by simp) (fun k e => by cases e); obtain ⟨c0, c1, c2, c3⟩ := CS.out _ m1)
    | (refine ⟨trivial, ?_⟩; gi_at_call 61; refine (bytesOf_in _ _ _ _).mono ?_; rintro e w' ⟨rfl, rfl⟩))
  have z1 : w.heap.size + 1 ≤ w1.heap.size := by have := m1.size; simpa using this
  refine ⟨trivial, (step4_in 3 (by omega) 0 (w.heap.size + 1) ts h1 _ _ w1 (by omega) z1 O1).mono ?_⟩
  rintro e w2 ⟨v2, rfl, O2, k2⟩
  have m2 := m1.trans k2
  obtain ⟨c0, c1, c2, c3⟩ := CS.out _ m2
  have z2 := Nat.le_trans z1 k2.size
  clear O1 m1
  gi_wp2_with (first
    | (refine ⟨trivial, ?_⟩; gi_at_call 61; refine (bytesOf_in _ _ _ _).mono ?_; rintro e w' ⟨rfl, rfl⟩))
  refine ⟨trivial, (step4_in 3 (by omega) 4 (w.heap.size + 1) td h2 _ _ w2 (by omega) z2 O2).mono ?_⟩
  rintro e w3 ⟨v3, rfl, O3, k3⟩
  have m3 := m2.trans k3
  have z3 := Nat.le_trans z2 k3.size
  obtain ⟨c0, c1, c2, c3⟩ := CS.out _ m3
  clear O2 m2 k2
  gi_wp2_with (first
    | (refine ⟨trivial, ?_⟩; gi_at_call 61; refine (bytesOf_in _ _ _ _).mono ?_; rintro e w' ⟨rfl, rfl⟩))
  refine ⟨trivial, (step2_in 3 (by omega) 8 (w.heap.size + 1) tp ⟨h3.1, by omega⟩ _ _ w3 (by omega) z3 O3).mono ?_⟩
  rintro e w4 ⟨v4, rfl, O4, k4⟩
  have m4 := m3.trans k4
  have z4 := Nat.le_trans z3 k4.size
  obtain ⟨c0, c1, c2, c3⟩ := CS.out _ m4
  clear O3 m3 k3
  gi_wp2_with (first
    | (refine ⟨trivial, ?_⟩; gi_at_call 61; refine (bytesOf_in _ _ _ _).mono ?_; rintro e w' ⟨rfl, rfl⟩))
  refine ⟨trivial, (step2_in 3 (by omega) 10 (w.heap.size + 1) tq ⟨h4.1, by omega⟩ _ _ w4 (by omega) z4 O4).mono ?_⟩
  rintro e w5 ⟨v5, rfl, O5, k5⟩
  have m5 := m4.trans k5
  have z5 := Nat.le_trans z4 k5.size
  obtain ⟨c0, c1, c2, c3⟩ := CS.out _ m5
  gi_wp2
  go_ret
  obtain ⟨A, c, rfl⟩ := own_slice O5
  have O5' : w5.ownsRow (w.heap.size + 1) 5 1 (.slice A 12 c) 12 ((tupB ts td tp tq).map (Value.int .u8)) := O5
  exact ⟨A, c, rfl, own_base O5' (by omega), L0.out.trans (m5.mono (by omega))⟩

set_option maxRecDepth 100000 in
theorem tBytes_any (ts td tp tq : Int) (H : UNums ts td tp tq) (w : World) :
    Calls Try.prog 37 #[.agg #[.int .u32 ts, .int .u32 td, .int .u16 tp, .int .u16 tq]] w (BRet (tupB ts td tp tq) w) :=
  (tBytes_own ts td tp tq H w).mono fun e w' ⟨A, c, he, O, L⟩ => by
    have hc : 12 ≤ c := by
      rcases O.2 with ⟨_, h0⟩ | ⟨g, cap, cur, hv, _, _, h1, _⟩
      · omega
      · injection hv with _ _ hv
        omega
    exact ⟨A, c, he, hc, Row.of_own O (in_wf8 (tupB_in ts td tp tq)), L⟩

theorem or_u32 (a b : Int) (ha : 0 ≤ a) (ha' : a < 16777216) (hb : 0 ≤ b) (hb' : b ≤ 255) : bits .or .u32 (a * 256) b = a * 256 + b := by
  rw [u32_or (a * 256) b (by omega) (by omega) hb (by omega)]
  have e : ((a * 256).toNat ||| b.toNat : Nat) = a.toNat * 256 + b.toNat := by
    have := Nat.shiftLeft_add_eq_or_of_lt (i := 8) (b := b.toNat) (by omega) a.toNat
    rw [Nat.shiftLeft_eq] at this
    have e2 : (a * 256).toNat = a.toNat * 2 ^ 8 := by omega
    rw [e2]
    omega
  rw [e]
  omega

end Go.Proofs.Ytklmlpnccbmpnaa
