/- Package tuple: Bytes, numberIn, Take, Back. -/
import Derived.Test.YtpbheonapgckfaaDoorTupI
namespace Go.Proofs.YtpbheonapgckfaaDoor
open Go.RowKit Go.Shelf
open SumM

/-- Tuples handed back in memory that the call may have made. -/
def TRowRet (us : List Tup) (w : World) (e : Ending) (w' : World) : Prop :=
  ∃ A c, e = .returned (.slice A us.length c) ∧ TRow w'.heap.size w' A us ∧ Below w.heap.size w w'
/-- Twelve bytes handed back. -/
def BRet (zs : List Int) (w : World) (e : Ending) (w' : World) : Prop :=
  ∃ A c, e = .returned (.slice A 12 c) ∧ 12 ≤ c ∧ Row .u8 w'.heap.size w' A zs ∧ Below w.heap.size w w'

theorem be4 (m : Int) : be 4 m = [m / 16777216 % 256, m / 65536 % 256, m / 256 % 256, m % 256] := by
  simp [be, upto, List.range_succ]
theorem be2 (m : Int) : be 2 m = [m / 256 % 256, m % 256] := by
  simp [be, upto, List.range_succ]

theorem step4_in (n : Nat) (hn : 3 ≤ n) (n0 B : Nat) (m : Int) (hm : 0 ≤ m ∧ m ≤ 4294967295) (v : Value) (xs : List Value) (w : World) (hn0 : n0 ≤ 100) (hB : B ≤ w.heap.size) (hown : w.ownsRow B 5 1 v n0 xs) :
    CallsIn Fence.wide n Tryd.prog 27 #[v, .func (.func 35) #[] #[.pointer (some ⟨w.heap.size + 1, 0, none⟩), .pointer (some ⟨w.heap.size, 0, none⟩)]] ((w.alloc (.cells #[.int .u32 m] 22)).alloc (.cells #[.int .i64 4] 3)) fun e w' =>
      ∃ v', e = .returned v' ∧ w'.ownsRow B 5 1 v' (n0 + 4) (xs ++ [m / 16777216 % 256, m / 65536 % 256, m / 256 % 256, m % 256].map (Value.int .u8)) ∧ Below B w w' := by
  have bN := (Boxed.new w 22 (.int .u32 m)).alloc (.cells #[.int .i64 4] 3)
  have bW := Boxed.new (w.alloc (.cells #[.int .u32 m] 22)) 3 (.int .i64 4)
  rw [World.size_alloc] at bW
  have L0 : Below B w ((w.alloc (.cells #[.int .u32 m] 22)).alloc (.cells #[.int .i64 4] 3)) := ((Below.refl _ w).alloc hB _).alloc (by simp; omega) _
  have h := appendSeqB_in n hn w.heap.size (w.heap.size + 1) 4 n0 B m (.inl rfl) hm v xs _ hn0 bN bW (by simp; omega) ((hown.alloc (.cells #[.int .u32 m] 22)).alloc (.cells #[.int .i64 4] 3))
  rw [be4] at h
  exact h.mono fun e w' ⟨v', h1, h2, h3⟩ => ⟨v', h1, h2, L0.trans h3⟩

theorem step2_in (n : Nat) (hn : 3 ≤ n) (n0 B : Nat) (m : Int) (hm : 0 ≤ m ∧ m ≤ 4294967295) (v : Value) (xs : List Value) (w : World) (hn0 : n0 ≤ 100) (hB : B ≤ w.heap.size) (hown : w.ownsRow B 5 1 v n0 xs) :
    CallsIn Fence.wide n Tryd.prog 27 #[v, .func (.func 35) #[] #[.pointer (some ⟨w.heap.size + 1, 0, none⟩), .pointer (some ⟨w.heap.size, 0, none⟩)]] ((w.alloc (.cells #[.int .u32 m] 22)).alloc (.cells #[.int .i64 2] 3)) fun e w' =>
      ∃ v', e = .returned v' ∧ w'.ownsRow B 5 1 v' (n0 + 2) (xs ++ [m / 256 % 256, m % 256].map (Value.int .u8)) ∧ Below B w w' := by
  have bN := (Boxed.new w 22 (.int .u32 m)).alloc (.cells #[.int .i64 2] 3)
  have bW := Boxed.new (w.alloc (.cells #[.int .u32 m] 22)) 3 (.int .i64 2)
  rw [World.size_alloc] at bW
  have L0 : Below B w ((w.alloc (.cells #[.int .u32 m] 22)).alloc (.cells #[.int .i64 2] 3)) := ((Below.refl _ w).alloc hB _).alloc (by simp; omega) _
  have h := appendSeqB_in n hn w.heap.size (w.heap.size + 1) 2 n0 B m (.inr rfl) hm v xs _ hn0 bN bW (by simp; omega) ((hown.alloc (.cells #[.int .u32 m] 22)).alloc (.cells #[.int .i64 2] 3))
  rw [be2] at h
  exact h.mono fun e w' ⟨v', h1, h2, h3⟩ => ⟨v', h1, h2, L0.trans h3⟩

set_option maxRecDepth 100000 in
set_option maxHeartbeats 2000000 in
theorem tBytes_own (ts td tp tq : Int) (H : UNums ts td tp tq) (w : World) :
    Calls Tryd.prog 11 #[.agg #[.int .u32 ts, .int .u32 td, .int .u16 tp, .int .u16 tq]] w (RowN 12 (tupB ts td tp tq) w) := by
  obtain ⟨i0, hi, hz0, hz1, hz2⟩ := info_parts Tryd.infoU8
  obtain ⟨h1, h2, h3, h4⟩ := H
  have bH := heap_alloc_new w (.cells #[.int .u32 ts, .int .u32 td, .int .u16 tp, .int .u16 tq] 25)
  have L0 := (Below.refl w.heap.size w).alloc (Nat.le_refl _) (.cells #[.int .u32 ts, .int .u32 td, .int .u16 tp, .int .u16 tq] 25)
  have hz : w.heap.size < (w.alloc (.cells #[.int .u32 ts, .int .u32 td, .int .u16 tp, .int .u16 tq] 25)).heap.size := by simp
  refine (callsIn_wide (n := 4)).1 ?_
  refine callsIn_of_wp Tryd.func11 rfl trivial ?_ rfl
  simp only [Tryd.ntmps11, List.size_toArray, List.length_cons, List.length_nil, Nat.reduceAdd, Nat.reduceSub, Array.replicate_succ, Array.replicate_zero, List.push_toArray, List.append_toArray, List.nil_append, List.cons_append]
  have CS := Lib.hid (fun W (m : Below (w.heap.size + 1) (w.alloc (.cells #[.int .u32 ts, .int .u32 td, .int .u16 tp, .int .u16 tq] 25)) W) => tup_cells _ _ _ _ ((m.block _ (by omega)).trans bH))
  have L0 := Lib.hid L0
  clear bH hz
  gi_wp2_with (first
    | (gi_at_make; refine wpListIn_make_own _ rfl _ _ 26 rfl (w.heap.size + 1) 5 i0 (.int .u8 0) 1 Tryd.underlying26 hi hz0 hz1 .i64 .i64 _ 12 rfl rfl (by omega) (by rw [hz2]; omega) (by unfold maxLen; omega) (by simp) ?_; intro w1 O1 g1; rw [World.size_alloc] at O1; have m1 := (Below.refl (w.heap.size + 1) _).grown g1 (by simp) (fun k e => by cases e); obtain ⟨c0, c1, c2, c3⟩ := CS.out _ m1)
    | (refine ⟨trivial, ?_⟩; gi_at_call 28; refine (bytesOf_in _ _ _ _).mono ?_; rintro e w' ⟨rfl, rfl⟩))
  have z1 : w.heap.size + 1 ≤ w1.heap.size := by have := m1.size; simpa using this
  refine ⟨trivial, (step4_in 3 (by omega) 0 (w.heap.size + 1) ts h1 _ _ w1 (by omega) z1 O1).mono ?_⟩
  rintro e w2 ⟨v2, rfl, O2, k2⟩
  have m2 := m1.trans k2
  obtain ⟨c0, c1, c2, c3⟩ := CS.out _ m2
  have z2 := Nat.le_trans z1 k2.size
  clear O1 m1
  gi_wp2_with (first
    | (refine ⟨trivial, ?_⟩; gi_at_call 28; refine (bytesOf_in _ _ _ _).mono ?_; rintro e w' ⟨rfl, rfl⟩))
  refine ⟨trivial, (step4_in 3 (by omega) 4 (w.heap.size + 1) td h2 _ _ w2 (by omega) z2 O2).mono ?_⟩
  rintro e w3 ⟨v3, rfl, O3, k3⟩
  have m3 := m2.trans k3
  have z3 := Nat.le_trans z2 k3.size
  obtain ⟨c0, c1, c2, c3⟩ := CS.out _ m3
  clear O2 m2 k2
  gi_wp2_with (first
    | (refine ⟨trivial, ?_⟩; gi_at_call 28; refine (bytesOf_in _ _ _ _).mono ?_; rintro e w' ⟨rfl, rfl⟩))
  refine ⟨trivial, (step2_in 3 (by omega) 8 (w.heap.size + 1) tp ⟨h3.1, by omega⟩ _ _ w3 (by omega) z3 O3).mono ?_⟩
  rintro e w4 ⟨v4, rfl, O4, k4⟩
  have m4 := m3.trans k4
  have z4 := Nat.le_trans z3 k4.size
  obtain ⟨c0, c1, c2, c3⟩ := CS.out _ m4
  clear O3 m3 k3
  gi_wp2_with (first
    | (refine ⟨trivial, ?_⟩; gi_at_call 28; refine (bytesOf_in _ _ _ _).mono ?_; rintro e w' ⟨rfl, rfl⟩))
  refine ⟨trivial, (step2_in 3 (by omega) 10 (w.heap.size + 1) tq ⟨h4.1, by omega⟩ _ _ w4 (by omega) z4 O4).mono ?_⟩
  rintro e w5 ⟨v5, rfl, O5, k5⟩
  have m5 := m4.trans k5
  have z5 := Nat.le_trans z4 k5.size
  obtain ⟨c0, c1, c2, c3⟩ := CS.out _ m5
  gi_wp2
  go_ret
  obtain ⟨A, c, rfl⟩ := own_slice O5
  have O5' : w5.ownsRow (w.heap.size + 1) 5 1 (.slice A 12 c) 12 ((tupB ts td tp tq).map (Value.int .u8)) := O5
  exact ⟨A, c, rfl, own_base O5' (by omega), L0.out.trans (m5.mono (by omega))⟩

set_option maxRecDepth 100000 in
theorem tBytes_any (ts td tp tq : Int) (H : UNums ts td tp tq) (w : World) :
    Calls Tryd.prog 11 #[.agg #[.int .u32 ts, .int .u32 td, .int .u16 tp, .int .u16 tq]] w (BRet (tupB ts td tp tq) w) :=
  (tBytes_own ts td tp tq H w).mono fun e w' ⟨A, c, he, O, L⟩ => by
    have hc : 12 ≤ c := by
      rcases O.2 with ⟨_, h0⟩ | ⟨g, cap, cur, hv, _, _, h1, _⟩
      · omega
      · injection hv with _ _ hv
        omega
    exact ⟨A, c, he, hc, Row.of_own O (in_wf8 (tupB_in ts td tp tq)), L⟩

theorem or_u32 (a b : Int) (ha : 0 ≤ a) (ha' : a < 16777216) (hb : 0 ≤ b) (hb' : b ≤ 255) : bits .or .u32 (a * 256) b = a * 256 + b := by
  rw [u32_or (a * 256) b (by omega) (by omega) hb (by omega)]
  have e : ((a * 256).toNat ||| b.toNat : Nat) = a.toNat * 256 + b.toNat := by
    have := Nat.shiftLeft_add_eq_or_of_lt (i := 8) (b := b.toNat) (by omega) a.toNat
    rw [Nat.shiftLeft_eq] at this
    have e2 : (a * 256).toNat = a.toNat * 2 ^ 8 := by omega
    rw [e2]
    omega
  rw [e]
  omega

set_option maxRecDepth 100000 in
set_option maxHeartbeats 1000000 in
theorem numberIn_any (a : Option Addr) (len cap : Nat) (bs : List Int) (B : Nat) (w : World) (hR : Row .u8 B w a bs) (hl : bs.length = len) (hs : len ≤ 4) :
    Calls Tryd.prog 25 #[.slice a len cap] w fun e w' => e = .returned (.int .u32 (numOf bs)) ∧ w = w' := by
  have hin := row_in hR
  have HL := Lib.hid hl
  clear hl
  go_enter Tryd.func25, Tryd.ntmps25
  go_wp2
  go_loop [3, 8] (fun n i => ∃ k : Nat, k ≤ len ∧ i = .int .i64 k ∧ n = .int .u32 (numOf (bs.take k))) (fun _ i => len - (intOf i).toNat)
  case atStart => exact ⟨0, by omega, rfl, rfl⟩
  case round =>
    obtain ⟨k, hk, rfl, rfl⟩ := hrel
    by_cases hlt : k < len
    · obtain ⟨b, off, rfl, hb, hc⟩ := hR.2 (by rw [HL.out]; omega)
      have hcx := hc k (by rw [HL.out]; omega)
      have hx := getD_in hin (by decide) k
      have hn := num_bound (bs.take k) (in_take hin k) 3 (by simp; omega)
      have hnext : numOf (bs.take (k + 1)) = numOf (bs.take k) * 256 + bs[k]?.getD 0 := by
        rw [List.take_add_one, List.getElem?_eq_getElem (by rw [HL.out]; exact hlt)]
        simp only [Option.toList_some, numOf_snoc, Option.getD_some]
      have HN := Lib.hid hnext
      generalize numOf (bs.take k) = m at *
      have ho := or_u32 m (bs[k]?.getD 0) (by omega) (by omega) hx.1 hx.2
      clear hnext hc
      go_wp2
      go_round
      case rel => exact ⟨k + 1, by omega, by go_num, by rw [HN.out]⟩
      case measure => simp [intOf]; omega
    · obtain rfl : k = len := by omega
      go_wp2
      go_ret
      rw [← HL.out, List.take_length]
      exact ⟨rfl, rfl⟩

set_option maxRecDepth 100000 in
set_option maxHeartbeats 4000000 in
theorem tTake_no (a : Option Addr) (len cap : Nat) (bs : List Int) (hl : bs.length = len) (hne : len ≠ 12) (w : World) :
    Calls Tryd.prog 9 #[.slice a len cap] w fun e w' => e = .returned (.tuple #[.agg #[.int .u32 (takeF bs).1, .int .u32 (takeF bs).2.1, .int .u16 (takeF bs).2.2.1, .int .u16 (takeF bs).2.2.2], .int .i64 (takeY bs)]) ∧ Below w.heap.size w w' := by
  have hd0 := heap_alloc_new w (.cells #[.int .u32 0, .int .u32 0, .int .u16 0, .int .u16 0] 25)
  have L0 : Below w.heap.size w (w.alloc (.cells #[.int .u32 0, .int .u32 0, .int .u16 0, .int .u16 0] 25)) := (Below.refl _ w).alloc (Nat.le_refl _) _
  obtain ⟨q0, q1, q2, q3⟩ := tup_cells _ _ _ _ hd0
  have f0 := tup_frozen hd0 0
  have f1 := tup_frozen hd0 1
  have f2 := tup_frozen hd0 2
  have f3 := tup_frozen hd0 3
  have C0 := Lib.hid hd0
  have B0 := Lib.hid L0
  have HF := Lib.hid (show takeF bs = (0, 0, 0, 0) by unfold takeF; rw [hl, if_neg hne])
  have HY := Lib.hid (show takeY bs = if len < 12 then 61 else 60 by unfold takeY; rw [hl]; split; rfl; rw [if_pos (by omega)])
  clear hd0 L0 hl
  obtain ⟨Y, hY⟩ : ∃ Y : Int, (if len < 12 then (61 : Int) else 60) = Y := ⟨_, rfl⟩
  go_enter Tryd.func9, Tryd.ntmps9
  obtain ⟨W0, hW0⟩ : ∃ W0, w.alloc (.cells #[.int .u32 0, .int .u32 0, .int .u16 0, .int .u16 0] 25) = W0 := ⟨_, rfl⟩
  rw [hW0] at q0 q1 q2 q3 f0 f1 f2 f3 C0 B0
  have HW := Lib.hid hW0
  have HYY := Lib.hid hY
  clear hW0 hY
  go_wp2
  rw [HW.out]
  refine wp_scope_jumps 0 (fun a' w' => w' = W0 ∧ ∃ u5 u6 u7 u8 u9 u10 : Value, a' = { tmps := #[.slice a len cap, undef, .pointer (some ⟨w.heap.size, 0, none⟩), .int .i64 0, .int .i64 Y, u5, u6, u7, u8, u9, u10, undef, undef, undef, undef, undef, undef, undef, undef, undef, undef, undef, undef, undef, undef, undef, undef, undef], defers := [] }) (fun _ _ => 0) rfl ?first ?pass
  case first =>
    rcases Nat.lt_or_ge len 12 with h1 | h1
    · have p1 : decide ((len : Int) < 12) = true := decide_eq_true (by omega)
      go_wp2
      go_step3
      obtain rfl : Y = 61 := by rw [← HYY.out, if_pos h1]
      exact ⟨rfl, rfl, _, _, _, _, _, _, rfl⟩
    · have p1 : decide ((len : Int) < 12) = false := decide_eq_false (by omega)
      have p2 : decide ((12 : Int) < len) = true := decide_eq_true (by omega)
      go_wp2
      go_step3
      obtain rfl : Y = 60 := by rw [← HYY.out, if_neg (by omega)]
      exact ⟨rfl, rfl, _, _, _, _, _, _, rfl⟩
  case pass =>
    rintro a' w' ⟨rfl, u5, u6, u7, u8, u9, u10, rfl⟩
    go_wp2
    simp only [Exit.jump]
    refine bodyPost_ret (results_tup rfl _ _ w.heap.size _ (0, 0) rfl (full_setCells C0.out [.int .u32 0, .int .u32 0, .int .u16 0, .int .u16 0] rfl) rfl) rfl ?_
    rw [HF.out, HY.out, HYY.out]
    exact ⟨rfl, below_setCells w.heap.size (Nat.le_refl _) [.int .u32 0, .int .u32 0, .int .u16 0, .int .u16 0] 0 w _ B0.out⟩

set_option maxRecDepth 100000 in
set_option maxHeartbeats 4000000 in
theorem tTake_yes (a : Option Addr) (cap : Nat) (bs : List Int) (hl : bs.length = 12) (hlc : 12 ≤ cap) (w : World) (hR : Row .u8 w.heap.size w a bs) :
    Calls Tryd.prog 9 #[.slice a 12 cap] w fun e w' => e = .returned (.tuple #[.agg #[.int .u32 (takeF bs).1, .int .u32 (takeF bs).2.1, .int .u16 (takeF bs).2.2.1, .int .u16 (takeF bs).2.2.2], .int .i64 (takeY bs)]) ∧ Below w.heap.size w w' := by
  have hin := row_in hR
  have hd0 := heap_alloc_new w (.cells #[.int .u32 0, .int .u32 0, .int .u16 0, .int .u16 0] 25)
  have L0 : Below w.heap.size w (w.alloc (.cells #[.int .u32 0, .int .u32 0, .int .u16 0, .int .u16 0] 25)) := (Below.refl _ w).alloc (Nat.le_refl _) _
  obtain ⟨q0, q1, q2, q3⟩ := tup_cells _ _ _ _ hd0
  have f0 := tup_frozen hd0 0
  have f1 := tup_frozen hd0 1
  have f2 := tup_frozen hd0 2
  have f3 := tup_frozen hd0 3
  have C0 := Lib.hid hd0
  have B0 := Lib.hid L0
  obtain ⟨b, off, rfl, hb, _⟩ := hR.2 (by omega)
  have HY := Lib.hid (show takeY bs = 0 ∧ takeF bs = (numOf (bs.take 4), numOf ((bs.drop 4).take 4), numOf ((bs.drop 8).take 2), numOf (bs.drop 10)) by unfold takeY takeF; rw [hl, if_neg (by omega), if_neg (by omega), if_pos rfl]; exact ⟨rfl, rfl⟩)
  have b3 := num_bound ((bs.drop 8).take 2) (in_take (in_drop hin 8) 2) 2 (by simp; omega)
  have b4 := num_bound (bs.drop 10) (in_drop hin 10) 2 (by simp; omega)
  have RR := hR.below L0
  obtain ⟨W0, hW0⟩ : ∃ W0, w.alloc (.cells #[.int .u32 0, .int .u32 0, .int .u16 0, .int .u16 0] 25) = W0 := ⟨_, rfl⟩
  rw [hW0] at q0 q1 q2 q3 f0 f1 f2 f3 C0 B0 RR
  have HW := Lib.hid hW0
  obtain ⟨m1, hm1⟩ : ∃ k, numOf (bs.take 4) = k := ⟨_, rfl⟩
  obtain ⟨m2, hm2⟩ : ∃ k, numOf ((bs.drop 4).take 4) = k := ⟨_, rfl⟩
  obtain ⟨m3, hm3⟩ : ∃ k, numOf ((bs.drop 8).take 2) = k := ⟨_, rfl⟩
  obtain ⟨m4, hm4⟩ : ∃ k, numOf (bs.drop 10) = k := ⟨_, rfl⟩
  rw [hm3] at b3
  rw [hm4] at b4
  rw [hm1, hm2, hm3, hm4] at HY
  have RD : Row .u8 w.heap.size W0.drew (some ⟨b, off, none⟩) bs := RR
  have K1 := Lib.hid (hm1 ▸ numberIn_any (some ⟨b, off, none⟩) 4 cap _ _ W0.drew (RD.take 4) (by simp; omega) (by omega))
  have K2 := Lib.hid (hm2 ▸ numberIn_any (some ⟨b, off + 4, none⟩) 4 (cap - 4) _ _ W0.drew ((RD.drop 4).take 4) (by simp; omega) (by omega))
  have K3 := Lib.hid (hm3 ▸ numberIn_any (some ⟨b, off + 8, none⟩) 2 (cap - 8) _ _ W0.drew ((RD.drop 8).take 2) (by simp; omega) (by omega))
  have K4 := Lib.hid (hm4 ▸ numberIn_any (some ⟨b, off + 10, none⟩) 2 (cap - 10) _ _ W0.drew (RD.drop 10) (by simp; omega) (by omega))
  have i4 : ¬ cap = 4 := by omega
  have i8 : ¬ cap = 8 := by omega
  have i10 : ¬ cap = 10 := by omega
  have j4 : (4 : Int) ≤ (cap : Int) := by omega
  have j8 : (8 : Int) ≤ (cap : Int) := by omega
  have j10 : (10 : Int) ≤ (cap : Int) := by omega
  have j12 : (12 : Int) ≤ (cap : Int) := by omega
  have u3 : IntKind.u16.wrap m3 = m3 := IntWalk.u16_in _ (by omega)
  have u4 : IntKind.u16.wrap m4 = m4 := IntWalk.u16_in _ (by omega)
  clear b3 b4 hm1 hm2 hm3 hm4 hl L0 RR RD hR hW0 hd0 hin
  go_enter Tryd.func9, Tryd.ntmps9
  go_wp2
  rw [HW.out]
  refine wp_scope_jumps 0 (fun _ _ => False) (fun _ _ => 0) rfl ?first (fun _ _ h => h.elim)
  go_upto_region 5 with (fail)
  go_region_held3 (fun _ => True) (trivial)
    (first
      | (go_at_call 25; (with_reducible refine K1.out.mono ?_); rintro e w1 ⟨rfl, rfl⟩)
      | (go_at_call 25; (with_reducible refine K2.out.mono ?_); rintro e w1 ⟨rfl, rfl⟩)
      | (go_at_call 25; (with_reducible refine K3.out.mono ?_); rintro e w1 ⟨rfl, rfl⟩)
      | (go_at_call 25; (with_reducible refine K4.out.mono ?_); rintro e w1 ⟨rfl, rfl⟩))
  go_wp2
  simp only [Exit.jump]
  refine bodyPost_ret (results_tup rfl _ _ w.heap.size _ (0, 0) rfl (full_setCells C0.out [.int .u32 m1, .int .u32 m2, .int .u16 m3, .int .u16 m4] rfl) rfl) rfl ?_
  rw [HY.out.1, HY.out.2]
  exact ⟨rfl, (below_setCells w.heap.size (Nat.le_refl _) [.int .u32 m1, .int .u32 m2, .int .u16 m3, .int .u16 m4] 0 w _ B0.out).drew⟩

theorem tTake_any (a : Option Addr) (len cap : Nat) (bs : List Int) (hl : bs.length = len) (hlc : len ≤ cap) (w : World) (hR : Row .u8 w.heap.size w a bs) :
    Calls Tryd.prog 9 #[.slice a len cap] w fun e w' => e = .returned (.tuple #[.agg #[.int .u32 (takeF bs).1, .int .u32 (takeF bs).2.1, .int .u16 (takeF bs).2.2.1, .int .u16 (takeF bs).2.2.2], .int .i64 (takeY bs)]) ∧ Below w.heap.size w w' := by
  by_cases h : len = 12
  · subst h
    exact tTake_yes a cap bs hl hlc w hR
  · exact tTake_no a len cap bs hl h w

set_option maxRecDepth 100000 in
set_option maxHeartbeats 1000000 in
theorem tBack_any (ts td tp tq : Int) (w : World) :
    Calls Tryd.prog 17 #[.agg #[.int .u32 ts, .int .u32 td, .int .u16 tp, .int .u16 tq]] w fun e w' => e = .returned (.agg #[.int .u32 td, .int .u32 ts, .int .u16 tq, .int .u16 tp]) ∧ Below w.heap.size w w' := by
  have bH := (Below.heap_alloc _ (.cells #[.int .u32 0, .int .u32 0, .int .u16 0, .int .u16 0] 25) w.heap.size (by simp)).trans (heap_alloc_new w (.cells #[.int .u32 ts, .int .u32 td, .int .u16 tp, .int .u16 tq] 25))
  have bB := heap_alloc_new (w.alloc (.cells #[.int .u32 ts, .int .u32 td, .int .u16 tp, .int .u16 tq] 25)) (.cells #[.int .u32 0, .int .u32 0, .int .u16 0, .int .u16 0] 25)
  rw [World.size_alloc] at bB
  have L0 := ((Below.refl w.heap.size w).alloc (Nat.le_refl _) (.cells #[.int .u32 ts, .int .u32 td, .int .u16 tp, .int .u16 tq] 25)).alloc (by simp) (.cells #[.int .u32 0, .int .u32 0, .int .u16 0, .int .u16 0] 25)
  obtain ⟨q0, q1, q2, q3⟩ := tup_cells _ _ _ _ bH
  obtain ⟨z0, z1, z2, z3⟩ := tup_cells _ _ _ _ bB
  have f0 := tup_frozen bB 0
  have f1 := tup_frozen bB 1
  have f2 := tup_frozen bB 2
  have f3 := tup_frozen bB 3
  go_enter Tryd.func17, Tryd.ntmps17
  go_upto_region 1 with (fail)
  generalize (w.alloc (.cells #[.int .u32 ts, .int .u32 td, .int .u16 tp, .int .u16 tq] 25)).alloc (.cells #[.int .u32 0, .int .u32 0, .int .u16 0, .int .u16 0] 25) = W0 at *
  go_wp2
  refine bodyPost_ret (results_cell_row rfl _ _ (w.heap.size + 1) 25 _ (0, 0) _ rfl (full_setCells bB [.int .u32 td, .int .u32 ts, .int .u16 tq, .int .u16 tp] rfl) Tryd.underlying25 rfl Tryd.infoTup) rfl ?_
  exact ⟨rfl, below_setCells (w.heap.size + 1) (by omega) [.int .u32 td, .int .u32 ts, .int .u16 tq, .int .u16 tp] 0 w _ L0⟩
end Go.Proofs.YtpbheonapgckfaaDoor
