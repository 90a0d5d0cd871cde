/- The document's own answers on tuples: Bytes, Take, Back. -/
import Derived.Test.YtklmlpnccbmpnaaTupA
import Derived.Test.YtklmlpnccbmpnaaCore
import Derived.Deep.DeepCutAuto
namespace Go.Proofs.Ytklmlpnccbmpnaa
open Go.RowKit Go.Shelf
open SumM

/-- A tuple's bytes. -/
def tupB (ts td tp tq : Int) : List Int :=
  [ts / 16777216 % 256, ts / 65536 % 256, ts / 256 % 256, ts % 256, td / 16777216 % 256, td / 65536 % 256, td / 256 % 256, td % 256, tp / 256 % 256, tp % 256, tq / 256 % 256, tq % 256]
theorem tupB_length (ts td tp tq : Int) : (tupB ts td tp tq).length = 12 := rfl
theorem tupB_in (ts td tp tq : Int) : In 255 (tupB ts td tp tq) := by
  intro x hx
  simp [tupB] at hx
  omega
/-- Bytes of a known number, in memory of the call's own. -/
def RowN (n : Nat) (zs : List Int) (w : World) (e : Ending) (w' : World) : Prop :=
  ∃ A c, e = .returned (.slice A n c) ∧ w'.ownsRow w.heap.size 5 1 (.slice A n c) n (zs.map (Value.int .u8)) ∧ Below w.heap.size w w'
theorem r4wf (l : List Int) (h : In 255 l) : ∀ x ∈ l, (Lit.int .u8 x).wf = true := in_wf8 h
theorem r4in4 (n : Int) : In 255 [n / 16777216 % 256, n / 65536 % 256, n / 256 % 256, n % 256] := by
  intro x hx
  simp at hx
  omega
theorem r4in2 (n : Int) : In 255 [n / 256 % 256, n % 256] := by
  intro x hx
  simp at hx
  omega

set_option maxRecDepth 100000 in
set_option maxHeartbeats 4000000 in
theorem r4Bytes_any (ts td tp tq : Int) (H : UNums ts td tp tq) (w : World) :
    Calls Try.prog 26 #[.agg #[.int .u32 ts, .int .u32 td, .int .u16 tp, .int .u16 tq]] w (RowN 12 (tupB ts td tp tq) w) := by
  obtain ⟨i0, hi, hz0, hz1, hz2⟩ := info_parts Try.infoU8
  obtain ⟨h1, h2, h3, h4⟩ := H
  have bH := heap_alloc_new w (.cells #[.int .u32 ts, .int .u32 td, .int .u16 tp, .int .u16 tq] 26)
  have L0 := (Below.refl w.heap.size w).alloc (Nat.le_refl _) (.cells #[.int .u32 ts, .int .u32 td, .int .u16 tp, .int .u16 tq] 26)
  have e1 : IntKind.i64.wrap ts = ts := IntWalk.i64_in _ (by omega)
  have e2 : IntKind.i64.wrap td = td := IntWalk.i64_in _ (by omega)
  have e3 : IntKind.i64.wrap tp = tp := IntWalk.i64_in _ (by omega)
  have e4 : IntKind.i64.wrap tq = tq := IntWalk.i64_in _ (by omega)
  go_enter Try.func26, Try.ntmps26
  go_upto_region 1 with (fail)
  generalize w.alloc (.cells #[.int .u32 ts, .int .u32 td, .int .u16 tp, .int .u16 tq] 26) = W0 at *
  have CS := Lib.hid (fun W (m : Below W0.heap.size W0 W) => tup_cells _ _ _ _ ((m.block _ (Array.getElem?_eq_some_iff.1 bH).1).trans bH))
  have n0 := (Below.refl W0.heap.size W0).drew
  clear bH
  go_region_held3 (fun W => W.cell? ⟨w.heap.size, 0, none⟩ = some (.int .u32 ts) ∧ W.cell? ⟨w.heap.size, 1, none⟩ = some (.int .u32 td) ∧ W.cell? ⟨w.heap.size, 2, none⟩ = some (.int .u16 tp) ∧ W.cell? ⟨w.heap.size, 3, none⟩ = some (.int .u16 tq))
    (first | with_reducible exact CS.out _ n3 | with_reducible exact CS.out _ n2 | with_reducible exact CS.out _ n1 | with_reducible exact CS.out _ n0)
    (first
      | (go_at_call 39; (with_reducible refine (r4bytes4 ts h1 W0.drew).mono ?_); rintro e w1 ⟨g1, c1, rfl, O1, k1⟩; have n1 := n0.trans (k1.mono n0.size))
      | (go_at_call 39; (with_reducible refine (r4bytes4 td h2 w1).mono ?_); rintro e w2 ⟨g2, c2, rfl, O2, k2⟩; have n2 := n1.trans (k2.mono n1.size); have P1 := own_below O1 k2)
      | (refine step_append_some _ (by rfl) _ _ _ (by rfl) W0.heap.size 5 i0 (.int .u8 0) 1 Try.underlying22 hi hz0 hz1 hz2 rfl (.slice (some ⟨g1, 0, none⟩) 4 c1) 4 _ (by rfl) P1 ⟨g2, 0, none⟩ 4 c2 _ (by rfl) rfl (row_cells (Row.of_own O2 (r4wf _ (r4in4 td)))) (one_u8 _) (by unfold maxLen; omega) (by omega) n2.size ?_; intro v3 w3 O3 hg3; have n3 := n2.grown hg3 n2.size (fun k e => (P1.lt k e).1)))
  rw [← List.map_append] at O3
  obtain ⟨g3, c3, rfl, hg3b⟩ := own_form O3 (by omega)
  have O3' : w3.ownsRow W0.heap.size 5 1 (.slice (some ⟨g3, 0, none⟩) 8 c3) 8 _ := O3
  have nn0 : Below W0.heap.size W0 w3.drew := n3.drew
  have OD : w3.drew.ownsRow W0.heap.size 5 1 (.slice (some ⟨g3, 0, none⟩) 8 c3) 8 _ := O3'
  have kk0 := (Below.refl w3.heap.size w3).drew
  clear O1 O2 P1 hg3 O3 O3' n0 n1 n2
  go_wp2
  go_region_held3 (fun W => W.cell? ⟨w.heap.size, 0, none⟩ = some (.int .u32 ts) ∧ W.cell? ⟨w.heap.size, 1, none⟩ = some (.int .u32 td) ∧ W.cell? ⟨w.heap.size, 2, none⟩ = some (.int .u16 tp) ∧ W.cell? ⟨w.heap.size, 3, none⟩ = some (.int .u16 tq))
    (first | with_reducible exact CS.out _ n7 | with_reducible exact CS.out _ n6 | with_reducible exact CS.out _ n5 | with_reducible exact CS.out _ n4 | with_reducible exact CS.out _ nn0)
    (first
      | (go_at_call 39; (with_reducible refine (r4bytes2 tp ⟨h3.1, by omega⟩ w3.drew).mono ?_); rintro e w4 ⟨g4, c4, rfl, O4, k4⟩; have n4 := nn0.trans (k4.mono nn0.size); have P4 := own_below OD k4)
      | (refine step_append_some _ (by rfl) (.tmp 13) _ _ (by rfl) W0.heap.size 5 i0 (.int .u8 0) 1 Try.underlying22 hi hz0 hz1 hz2 rfl (.slice (some ⟨g3, 0, none⟩) 8 c3) 8 _ (by rfl) P4 ⟨g4, 0, none⟩ 2 c4 _ (by rfl) rfl (row_cells (Row.of_own O4 (r4wf _ (r4in2 tp)))) (one_u8 _) (by unfold maxLen; omega) (by omega) n4.size ?_; intro v5 w5 O5 hg5; have n5 := n4.grown hg5 n4.size (fun k e => (P4.lt k e).1); rw [← List.map_append] at O5)
      | (go_at_call 39; (with_reducible refine (r4bytes2 tq ⟨h4.1, by omega⟩ w5).mono ?_); rintro e w6 ⟨g6, c6, rfl, O6, k6⟩; have n6 := n5.trans (k6.mono n5.size); have P6 := own_below O5 k6)
      | (refine step_append_some _ (by rfl) (.tmp 18) _ _ (by rfl) W0.heap.size 5 i0 (.int .u8 0) 1 Try.underlying22 hi hz0 hz1 hz2 rfl v5 10 _ (by rfl) P6 ⟨g6, 0, none⟩ 2 c6 _ (by rfl) rfl (row_cells (Row.of_own O6 (r4wf _ (r4in2 tq)))) (one_u8 _) (by unfold maxLen; omega) (by omega) n6.size ?_; intro v7 w7 O7 hg7; have n7 := n6.grown hg7 n6.size (fun k e => (P6.lt k e).1); rw [← List.map_append] at O7))
  obtain ⟨A7, c7, rfl⟩ := own_slice O7
  have O7' : w7.ownsRow W0.heap.size 5 1 (.slice A7 12 c7) 12 ((tupB ts td tp tq).map (Value.int .u8)) := O7
  go_wp2
  go_ret
  exact ⟨A7, c7, rfl, own_base O7' L0.size, L0.trans (n7.mono L0.size)⟩

theorem Try.infoTup : (Try.prog.info? 26).map (·.size) = some 4 := by kernel_rfl
theorem results_tup {fn : Func} {p u : Tmp} (h : fn.results = #[.cell p 26, .tmp u]) (tmps : Array Value) (w : World) (g : Nat) (cs : Array Value) (fr : Nat × Nat)
    (hp : tmps.getD p undef = .pointer (some ⟨g, 0, none⟩)) (hg : w.heap[g]? = some (.cells cs 26 fr)) (h9 : cs.size = 4) :
    (results fn tmps).run Try.prog w = .ok (.tuple #[.agg cs, tmps.getD u undef]) w := by
  rw [results_cell_tmp h, hp]
  simp only [asAddr, Sem.run_pure, Result.andThen_ok]
  rw [run_loadVar_row w g 26 26 cs fr _ hg Try.underlying26 rfl (by rw [h9]; exact Try.infoTup)]
  rfl

/-- Why bytes are no tuple, as an error's number; 0, if they are one; the tuple that they are. -/
def takeY (bs : List Int) : Int := if bs.length < 12 then 61 else if 12 < bs.length then 60 else 0
def takeF (bs : List Int) : Int × Int × Int × Int := if bs.length = 12 then (numOf (bs.take 4), numOf ((bs.drop 4).take 4), numOf ((bs.drop 8).take 2), numOf (bs.drop 10)) else (0, 0, 0, 0)
theorem num_bound (l : List Int) (h : In 255 l) (n : Nat) (hl : l.length ≤ n) : 0 ≤ numOf l ∧ numOf l < (256 : Int) ^ n := by
  have := numOf_in l h
  refine ⟨this.1, Int.lt_of_lt_of_le this.2 ?_⟩
  have h2 : (256 : Nat) ^ l.length ≤ 256 ^ n := Nat.pow_le_pow_right (by decide) hl
  have e : ∀ k : Nat, (256 : Int) ^ k = ((256 ^ k : Nat) : Int) := fun k => by simp
  rw [e, e]
  omega
set_option maxRecDepth 100000 in
set_option maxHeartbeats 4000000 in
theorem r4Take_any (a : Option Addr) (len cap : Nat) (bs : List Int) (hl : bs.length = len) (hlc : len ≤ cap) (w : World) (hR : Row .u8 w.heap.size w a bs) :
    Calls Try.prog 27 #[.slice a len cap] w fun e w' => e = .returned (.tuple #[.agg #[.int .u32 (takeF bs).1, .int .u32 (takeF bs).2.1, .int .u16 (takeF bs).2.2.1, .int .u16 (takeF bs).2.2.2], .int .i64 (takeY bs)]) ∧ Below w.heap.size w w' := by
  have hin := row_in hR
  have HL := Lib.hid hl
  have hd0 := heap_alloc_new w (.cells #[.int .u32 0, .int .u32 0, .int .u16 0, .int .u16 0] 26)
  have L0 : Below w.heap.size w (w.alloc (.cells #[.int .u32 0, .int .u32 0, .int .u16 0, .int .u16 0] 26)) := (Below.refl _ w).alloc (Nat.le_refl _) _
  obtain ⟨q0, q1, q2, q3⟩ := tup_cells _ _ _ _ hd0
  have f0 := tup_frozen hd0 0
  have f1 := tup_frozen hd0 1
  have f2 := tup_frozen hd0 2
  have f3 := tup_frozen hd0 3
  have C0 := Lib.hid hd0
  have B0 := Lib.hid L0
  clear hd0
  by_cases h1 : len < 12
  · have p1 : decide ((len : Int) < 12) = true := decide_eq_true (by omega)
    have HY := Lib.hid (show takeY bs = 61 ∧ takeF bs = (0, 0, 0, 0) by unfold takeY takeF; rw [hl, if_pos h1, if_neg (by omega)]; exact ⟨rfl, rfl⟩)
    clear hl L0
    go_enter Try.func27, Try.ntmps27
    go_upto_region 1 with (fail)
    generalize w.alloc (.cells #[.int .u32 0, .int .u32 0, .int .u16 0, .int .u16 0] 26) = W0 at *
    go_wp2
    refine bodyPost_ret (results_tup rfl _ _ w.heap.size _ (0, 0) rfl (full_setCells C0.out [.int .u32 0, .int .u32 0, .int .u16 0, .int .u16 0] rfl) rfl) rfl ?_
    rw [HY.out.1, HY.out.2]
    exact ⟨rfl, below_setCells w.heap.size (Nat.le_refl _) [.int .u32 0, .int .u32 0, .int .u16 0, .int .u16 0] 0 w _ B0.out⟩
  have p1 : decide ((len : Int) < 12) = false := decide_eq_false (by omega)
  by_cases h2 : 12 < len
  · have p2 : decide ((12 : Int) < len) = true := decide_eq_true (by omega)
    have HY := Lib.hid (show takeY bs = 60 ∧ takeF bs = (0, 0, 0, 0) by unfold takeY takeF; rw [hl, if_neg h1, if_pos h2, if_neg (by omega)]; exact ⟨rfl, rfl⟩)
    clear hl L0
    go_enter Try.func27, Try.ntmps27
    go_upto_region 1 with (fail)
    generalize w.alloc (.cells #[.int .u32 0, .int .u32 0, .int .u16 0, .int .u16 0] 26) = W0 at *
    go_wp2
    refine bodyPost_ret (results_tup rfl _ _ w.heap.size _ (0, 0) rfl (full_setCells C0.out [.int .u32 0, .int .u32 0, .int .u16 0, .int .u16 0] rfl) rfl) rfl ?_
    rw [HY.out.1, HY.out.2]
    exact ⟨rfl, below_setCells w.heap.size (Nat.le_refl _) [.int .u32 0, .int .u32 0, .int .u16 0, .int .u16 0] 0 w _ B0.out⟩
  obtain rfl : len = 12 := by omega
  have p2 : decide ((12 : Int) < ((12 : Nat) : Int)) = false := by decide
  obtain ⟨b, off, rfl, hb, _⟩ := hR.2 (by omega)
  have HY := Lib.hid (show takeY bs = 0 ∧ takeF bs = (numOf (bs.take 4), numOf ((bs.drop 4).take 4), numOf ((bs.drop 8).take 2), numOf (bs.drop 10)) by unfold takeY takeF; rw [hl, if_neg h1, if_neg h2, if_pos rfl]; exact ⟨rfl, rfl⟩)
  have b1 := num_bound (bs.take 4) (in_take hin 4) 4 (by simp; omega)
  have b2 := num_bound ((bs.drop 4).take 4) (in_take (in_drop hin 4) 4) 4 (by simp; omega)
  have b3 := num_bound ((bs.drop 8).take 2) (in_take (in_drop hin 8) 2) 2 (by simp; omega)
  have b4 := num_bound (bs.drop 10) (in_drop hin 10) 2 (by simp; omega)
  have RR := Lib.hid (hR.below L0)
  have N1 := Lib.hid (show (bs.take 4).length = 4 by simp; omega)
  have N2 := Lib.hid (show ((bs.drop 4).take 4).length = 4 by simp; omega)
  have N3 := Lib.hid (show ((bs.drop 8).take 2).length = 2 by simp; omega)
  have N4 := Lib.hid (show (bs.drop 10).length = 2 by simp; omega)
  go_enter Try.func27, Try.ntmps27
  go_upto_region 5 with (fail)
  generalize w.alloc (.cells #[.int .u32 0, .int .u32 0, .int .u16 0, .int .u16 0] 26) = W0 at *
  have RD := Lib.hid (show Row .u8 w.heap.size W0.drew (some ⟨b, off, none⟩) bs from RR.out)
  obtain ⟨m1, hm1⟩ : ∃ k, numOf (bs.take 4) = k := ⟨_, rfl⟩
  obtain ⟨m2, hm2⟩ : ∃ k, numOf ((bs.drop 4).take 4) = k := ⟨_, rfl⟩
  obtain ⟨m3, hm3⟩ : ∃ k, numOf ((bs.drop 8).take 2) = k := ⟨_, rfl⟩
  obtain ⟨m4, hm4⟩ : ∃ k, numOf (bs.drop 10) = k := ⟨_, rfl⟩
  rw [hm1] at b1
  rw [hm2] at b2
  rw [hm3] at b3
  rw [hm4] at b4
  rw [hm1, hm2, hm3, hm4] at HY
  have K1 := Lib.hid (hm1 ▸ r4number_any (some ⟨b, off, none⟩) 4 cap _ _ W0.drew (RD.out.take 4) N1.out (by omega))
  have K2 := Lib.hid (hm2 ▸ r4number_any (some ⟨b, off + 4, none⟩) 4 (cap - 4) _ _ W0.drew ((RD.out.drop 4).take 4) N2.out (by omega))
  have K3 := Lib.hid (hm3 ▸ r4number_any (some ⟨b, off + 8, none⟩) 2 (cap - 8) _ _ W0.drew ((RD.out.drop 8).take 2) N3.out (by omega))
  have K4 := Lib.hid (hm4 ▸ r4number_any (some ⟨b, off + 10, none⟩) 2 (cap - 10) _ _ W0.drew (RD.out.drop 10) N4.out (by omega))
  clear hm1 hm2 hm3 hm4 hl L0 RR
  have i4 : ¬ cap = 4 := by omega
  have i8 : ¬ cap = 8 := by omega
  have i10 : ¬ cap = 10 := by omega
  have j4 : (4 : Int) ≤ (cap : Int) := by omega
  have j8 : (8 : Int) ≤ (cap : Int) := by omega
  have j10 : (10 : Int) ≤ (cap : Int) := by omega
  have j12 : (12 : Int) ≤ (cap : Int) := by omega
  have u1 : IntKind.u32.wrap m1 = m1 := IntWalk.u32_in _ (by omega)
  have u2 : IntKind.u32.wrap m2 = m2 := IntWalk.u32_in _ (by omega)
  have u3 : IntKind.u16.wrap m3 = m3 := IntWalk.u16_in _ (by omega)
  have u4 : IntKind.u16.wrap m4 = m4 := IntWalk.u16_in _ (by omega)
  clear b1 b2 b3 b4
  go_region_held3 (fun _ => True) (trivial)
    (first
      | (go_at_call 40; (with_reducible refine K1.out.mono ?_); rintro e w1 ⟨rfl, rfl⟩)
      | (go_at_call 40; (with_reducible refine K2.out.mono ?_); rintro e w1 ⟨rfl, rfl⟩)
      | (go_at_call 40; (with_reducible refine K3.out.mono ?_); rintro e w1 ⟨rfl, rfl⟩)
      | (go_at_call 40; (with_reducible refine K4.out.mono ?_); rintro e w1 ⟨rfl, rfl⟩))
  go_wp2
  refine bodyPost_ret (results_tup rfl _ _ w.heap.size _ (0, 0) rfl (full_setCells C0.out [.int .u32 m1, .int .u32 m2, .int .u16 m3, .int .u16 m4] rfl) rfl) rfl ?_
  rw [HY.out.1, HY.out.2]
  exact ⟨rfl, (below_setCells w.heap.size (Nat.le_refl _) [.int .u32 m1, .int .u32 m2, .int .u16 m3, .int .u16 m4] 0 w _ B0.out).drew⟩

end Go.Proofs.Ytklmlpnccbmpnaa
