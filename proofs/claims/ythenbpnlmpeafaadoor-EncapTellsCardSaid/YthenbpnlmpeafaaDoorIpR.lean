/- What 'handfast/ip.Parse' answers. -/
import Derived.Test.YthenbpnlmpeafaaDoorIpCore
namespace Go.Proofs.YthenbpnlmpeafaaDoor
open Go.RowKit Go.Shelf
open SumM

attribute [local go_sem] Oper.semAt_some

/-- How many bytes the first byte says that a head has. -/
def hlOf (zs : List Int) : Nat := (segAt zs 0 % 16 * 4).toNat
/-- Why bytes are no head; 0, if they are one. -/
def whyOf (zs : List Int) : Int :=
  if zs.length < 20 then 1 else if segAt zs 0 / 16 ≠ 4 then 2 else if hlOf zs < 20 ∨ zs.length < hlOf zs then 3 else if segAt zs 2 ≠ zs.length then 4
  else if segAt zs 7 ≠ chkOf (zs.take (hlOf zs)) then 5 else if segAt zs 4 ≠ 0 ∧ segAt zs 4 ≠ 16384 then 6 else 0

theorem nums_stops_in (n : Nat) (hn : 1 ≤ n) (Bs n₀ len cap : Nat) (a : Option Addr) (bs : List Int) (hin : In 255 bs) (hl : bs.length = len) (h20 : 20 ≤ len) (hlc : len ≤ cap) (hs : cap ≤ 9223372036854775807) (w : World) (hn₀ : n₀ ≤ w.heap.size) (hg : 0 < n₀)
    (hB : Boxed w Bs 27 (.slice a len cap)) (hR : Row .u8 n₀ w a bs) (hW : Wid w) :
    SeqStopsK Fence.wide n Tryd.prog 70 #[.pointer (some ⟨Bs, 0, none⟩)] (fun x : PN => #[.int .i64 x.1.1, .int .u32 x.1.2]) (Keep n₀ [Bs]) (fun ys => ys = uptoA (pnAt bs hin) 10) (fun pre => pre.length ≤ 10) 10 w := fun l J Jx W hWb _ _ hY h0 =>
  numsIn_in n hn l Bs n₀ len cap a bs hin hl h20 hlc hs J Jx hY W ((hWb.block Bs hB.lt).trans hB) (hR.below (hWb.mono hn₀)) (fun i hi => (hWb.cell (p := ⟨0, i, none⟩) (Nat.lt_of_lt_of_le hg hn₀)).trans (hW i hi)) h0

/-- The array that the loop fills. -/
def fillOf (l : List PN) : List Int := l.foldl (fun acc x => acc.set x.1.1 x.1.2) [0, 0, 0, 0, 0, 0, 0, 0, 0, 0]
theorem fillOf_snoc (l : List PN) (x : PN) : fillOf (l ++ [x]) = (fillOf l).set x.1.1 x.1.2 := by simp [fillOf]
theorem fillOf_length (l : List PN) : (fillOf l).length = 10 := by
  have : ∀ (l : List PN) (acc : List Int), (l.foldl (fun acc x => acc.set x.1.1 x.1.2) acc).length = acc.length := by
    intro l
    induction l with
    | nil => intro acc; rfl
    | cons x r ih => intro acc; rw [List.foldl_cons, ih]; simp
  exact this l _
theorem fillOf_all (bs : List Int) (h : In 255 bs) : fillOf (uptoA (pnAt bs h) 10) = [segAt bs 0, segAt bs 1, segAt bs 2, segAt bs 3, segAt bs 4, segAt bs 5, segAt bs 6, segAt bs 7, segAt bs 8, segAt bs 9] := by
  simp [fillOf, uptoA, List.range_succ, pnAt_val h]

theorem results_head {fn : Func} {p u : Tmp} (h : fn.results = #[.cell p 51, .tmp u]) (tmps : Array Value) (w : World) (g : Nat) (cs : Array Value) (fr : Nat × Nat)
    (hp : tmps.getD p undef = .pointer (some ⟨g, 0, none⟩)) (hg : w.heap[g]? = some (.cells cs 51 fr)) (h9 : cs.size = 9) :
    (results fn tmps).run Tryd.prog w = .ok (.tuple #[.agg cs, tmps.getD u undef]) w := by
  rw [results_cell_tmp h, hp]
  simp only [asAddr, Sem.run_pure, Result.andThen_ok]
  rw [run_loadVar_row w g 51 51 cs fr _ hg Tryd.underlying51 rfl (by rw [h9]; exact Tryd.infoHead)]
  rfl

theorem segAt_lt {bs : List Int} (h : In 255 bs) (i : Nat) : segAt bs i < (256 : Int) ^ widthAt i := by
  have := numOf_in ((bs.drop (offAt i)).take (widthAt i)) (in_take (in_drop h _) _)
  refine Int.lt_of_lt_of_le this.2 ?_
  have hl : ((bs.drop (offAt i)).take (widthAt i)).length ≤ widthAt i := by
    simp only [List.length_take]
    omega
  have h4 := widthAt_is i
  generalize ((bs.drop (offAt i)).take (widthAt i)).length = p at hl
  generalize widthAt i = q at hl h4
  rcases h4 with rfl | rfl | rfl
  · obtain rfl | rfl : p = 0 ∨ p = 1 := by omega
    all_goals decide
  · obtain rfl | rfl | rfl : p = 0 ∨ p = 1 ∨ p = 2 := by omega
    all_goals decide
  · obtain rfl | rfl | rfl | rfl | rfl : p = 0 ∨ p = 1 ∨ p = 2 ∨ p = 3 ∨ p = 4 := by omega
    all_goals decide
theorem and15 (m : Int) (h0 : 0 ≤ m) (h1 : m ≤ 4294967295) : bits .and .u32 m 15 = m % 16 := by
  rw [u32_and m 15 h0 (by omega) (by omega) (by omega)]
  have e : (m.toNat &&& (15 : Int).toNat : Nat) = m.toNat % 16 := Nat.and_two_pow_sub_one_eq_mod m.toNat 4
  rw [e]
  omega

theorem andNot_flag (m : Int) (h0 : 0 ≤ m) (h1 : m < 65536) : (bits .andNot .u16 m 16384 != 0) = decide (m ≠ 0 ∧ m ≠ 16384) := by
  rw [u16_andNot m 16384 h0 h1 (by decide) (by decide)]
  have key : (m.toNat &&& 49151) = 0 ↔ m.toNat = 0 ∨ m.toNat = 16384 := by
    constructor
    · intro h
      have e1 : m.toNat = m.toNat &&& (49151 ||| 16384) := by
        have := Nat.and_two_pow_sub_one_eq_mod m.toNat 16
        rw [show (49151 ||| 16384 : Nat) = 2 ^ 16 - 1 from by decide, this]
        omega
      rw [Nat.and_or_distrib_left, h, Nat.zero_or] at e1
      have e2 : m.toNat &&& 16384 ≤ 16384 := Nat.and_le_right
      have e3 : (m.toNat &&& 16384) % 2 ^ 14 = 0 := by
        rw [Nat.and_mod_two_pow]
        exact Nat.and_zero _
      rw [show (2 ^ 14 : Nat) = 16384 from by decide] at e3
      omega
    · rintro (h | h) <;> rw [h] <;> decide
  rw [show (65535 - (16384 : Int).toNat : Nat) = 49151 from by decide]
  rw [Bool.eq_iff_iff]
  simp only [bne_iff_ne, ne_eq, decide_eq_true_eq]
  constructor
  · intro h
    refine ⟨fun e => h ?_, fun e => h ?_⟩
    · rw [key.2 (.inl (by omega))]; rfl
    · rw [key.2 (.inr (by omega))]; rfl
  · intro h e
    rcases key.1 (by omega) with h2 | h2 <;> omega
theorem rangeAt_s9 {W : World} {b b' o : Nat} {cs : List Value} {v0 v1 v2 v3 v4 v5 v6 v7 v8 : Value} (hne : b ≠ b') (h : W.rangeAt b o cs) :
    (((((((((W.setCell ⟨b', 0, none⟩ v0).setCell ⟨b', 1, none⟩ v1).setCell ⟨b', 2, none⟩ v2).setCell ⟨b', 3, none⟩ v3).setCell ⟨b', 4, none⟩ v4).setCell ⟨b', 5, none⟩ v5).setCell ⟨b', 6, none⟩ v6).setCell ⟨b', 7, none⟩ v7).setCell ⟨b', 8, none⟩ v8).rangeAt b o cs :=
  World.rangeAt_setCells_apart h b' 0 [v0, v1, v2, v3, v4, v5, v6, v7, v8] (.inl hne)

set_option maxRecDepth 100000 in
set_option maxHeartbeats 2000000 in
theorem ipParse_short (a : Option Addr) (len cap : Nat) (hl : len < 20) (w : World) :
    Calls Tryd.prog 34 #[.slice a len cap] w fun e w' => e = .returned (.tuple #[.agg #[.int .u8 0, .int .u16 0, .int .u16 0, .int .u8 0, .int .u8 0, .int .u32 0, .int .u32 0, .slice none 0 0, .slice none 0 0], .int .u8 1]) ∧ Below w.heap.size w w' := by
  have d0 := heap_alloc_new w (.cells #[.int .u8 0, .int .u16 0, .int .u16 0, .int .u8 0, .int .u8 0, .int .u32 0, .int .u32 0, .slice none 0 0, .slice none 0 0] 51)
  have d1 := (Below.heap_alloc _ (.cells #[.int .u32 0, .int .u32 0, .int .u32 0, .int .u32 0, .int .u32 0, .int .u32 0, .int .u32 0, .int .u32 0, .int .u32 0, .int .u32 0] 90) w.heap.size (by simp)).trans d0
  have L0 : Below w.heap.size w ((w.alloc (.cells #[.int .u8 0, .int .u16 0, .int .u16 0, .int .u8 0, .int .u8 0, .int .u32 0, .int .u32 0, .slice none 0 0, .slice none 0 0] 51)).alloc (.cells #[.int .u32 0, .int .u32 0, .int .u32 0, .int .u32 0, .int .u32 0, .int .u32 0, .int .u32 0, .int .u32 0, .int .u32 0, .int .u32 0] 90)) := ((Below.refl _ w).alloc (Nat.le_refl _) _).alloc (by simp) _
  have D1 := Lib.hid d1
  have L0 := Lib.hid L0
  clear d0 d1
  go_enter Tryd.func34, Tryd.ntmps34
  go_wp2
  refine wp_scope_jumps 0 (fun a' w' => ∃ (y : Int) (u0 u1 u3 u4 u5 u7 u8 u9 u10 u11 u12 u13 u14 u15 u16 u17 u18 u19 u20 u21 u22 u23 u24 u25 u26 u27 u28 u29 u30 u31 u32 u33 u34 u35 u36 u37 u38 u39 u40 u41 u42 u43 u44 u45 u46 u47 u48 u49 u50 u51 u52 u53 u54 u55 u56 u57 u58 u59 u60 u61 u62 u63 u64 : Value), a' = { tmps := #[u0, u1, .pointer (some ⟨w.heap.size, 0, none⟩), u3, u4, u5, .int .u8 y, u7, u8, u9, u10, u11, u12, u13, u14, u15, u16, u17, u18, u19, u20, u21, u22, u23, u24, u25, u26, u27, u28, u29, u30, u31, u32, u33, u34, u35, u36, u37, u38, u39, u40, u41, u42, u43, u44, u45, u46, u47, u48, u49, u50, u51, u52, u53, u54, u55, u56, u57, u58, u59, u60, u61, u62, u63, u64], defers := [] } ∧ y = 1 ∧ w'.heap[w.heap.size]? = some (.cells #[.int .u8 0, .int .u16 0, .int .u16 0, .int .u8 0, .int .u8 0, .int .u32 0, .int .u32 0, .slice none 0 0, .slice none 0 0] 51 (0, 0)) ∧ Below w.heap.size w w') (fun _ _ => 0) rfl ?first ?pass
  case first =>
    go_wp2
    go_step3
    exact ⟨rfl, 1, _, _, _, _, _, _, _, _, _, _, _, _, _, _, _, _, _, _, _, _, _, _, _, _, _, _, _, _, _, _, _, _, _, _, _, _, _, _, _, _, _, _, _, _, _, _, _, _, _, _, _, _, _, _, _, _, _, _, _, _, _, _, _, rfl, rfl, D1.out, L0.out⟩
  case pass =>
    rintro a' w' ⟨y, u0, u1, u3, u4, u5, u7, u8, u9, u10, u11, u12, u13, u14, u15, u16, u17, u18, u19, u20, u21, u22, u23, u24, u25, u26, u27, u28, u29, u30, u31, u32, u33, u34, u35, u36, u37, u38, u39, u40, u41, u42, u43, u44, u45, u46, u47, u48, u49, u50, u51, u52, u53, u54, u55, u56, u57, u58, u59, u60, u61, u62, u63, u64, rfl, rfl, hd, LL⟩
    obtain ⟨⟨q0, q1, q2, q3, q4, q5, q6, q7, q8⟩, qf⟩ := nine_cells hd
    have f0 := qf 0
    have f1 := qf 1
    have f2 := qf 2
    have f3 := qf 3
    have f4 := qf 4
    have f5 := qf 5
    have f6 := qf 6
    have f7 := qf 7
    have f8 := qf 8
    have C5 := Lib.hid (full_setCells hd [.int .u8 0, .int .u16 0, .int .u16 0, .int .u8 0, .int .u8 0, .int .u32 0, .int .u32 0, .slice none 0 0, .slice none 0 0] rfl)
    have L5 := Lib.hid (below_setCells w.heap.size (Nat.le_refl _) [.int .u8 0, .int .u16 0, .int .u16 0, .int .u8 0, .int .u8 0, .int .u32 0, .int .u32 0, .slice none 0 0, .slice none 0 0] 0 w _ LL)
    go_wp2
    simp only [Exit.jump]
    refine bodyPost_ret (results_head rfl _ _ w.heap.size _ (0, 0) rfl C5.out rfl) rfl ?_
    exact ⟨rfl, L5.out⟩

/-- A head, or why there is none. -/
def ParseRet (bs : List Int) (w : World) (e : Ending) (w' : World) : Prop :=
  (whyOf bs ≠ 0 ∧ e = .returned (.tuple #[.agg #[.int .u8 0, .int .u16 0, .int .u16 0, .int .u8 0, .int .u8 0, .int .u32 0, .int .u32 0, .slice none 0 0, .slice none 0 0], .int .u8 (whyOf bs)]) ∧ Below w.heap.size w w') ∨
  (whyOf bs = 0 ∧ ∃ v, e = .returned (.tuple #[v, .int .u8 0]) ∧ HeadRet (segAt bs 1 % 256) (segAt bs 3 % 65536) (segAt bs 4 % 65536) (segAt bs 5 % 256) (segAt bs 6 % 256) (segAt bs 8) (segAt bs 9) ((bs.take (hlOf bs)).drop 20) (bs.drop (hlOf bs)) w v w')

set_option maxRecDepth 100000 in
set_option maxHeartbeats 8000000 in
theorem ipParse_in (n : Nat) (hn : 4 ≤ n) (a : Option Addr) (len cap : Nat) (bs : List Int) (hlen : bs.length = len) (h20 : 20 ≤ len) (hlc : len ≤ cap) (hc : cap ≤ 9223372036854775807) (hln : len ≤ 1000000) (w : World) (hg : 0 < w.heap.size) (hW : Wid w) (hR : Row .u8 w.heap.size w a bs) :
    CallsIn Fence.wide n Tryd.prog 34 #[.slice a len cap] w (ParseRet bs w) := by
  have h1n : 1 ≤ n := by omega
  have HL := Lib.hid hlen
  clear hlen
  have hin := row_in hR
  refine callsIn_of_wp_marks Tryd.func34 rfl trivial ?_ rfl
  simp only [Tryd.ntmps34, List.size_toArray, List.length_cons, List.length_nil, Nat.reduceAdd, Nat.reduceSub, Array.replicate_succ, Array.replicate_zero, List.push_toArray, List.append_toArray, List.nil_append, List.cons_append]
  have d0 := heap_alloc_new w (.cells #[.int .u8 0, .int .u16 0, .int .u16 0, .int .u8 0, .int .u8 0, .int .u32 0, .int .u32 0, .slice none 0 0, .slice none 0 0] 51)
  have d1 := (Below.heap_alloc _ (.cells #[.int .u32 0, .int .u32 0, .int .u32 0, .int .u32 0, .int .u32 0, .int .u32 0, .int .u32 0, .int .u32 0, .int .u32 0, .int .u32 0] 90) w.heap.size (by simp)).trans d0
  have n1 := heap_alloc_new (w.alloc (.cells #[.int .u8 0, .int .u16 0, .int .u16 0, .int .u8 0, .int .u8 0, .int .u32 0, .int .u32 0, .slice none 0 0, .slice none 0 0] 51)) (.cells #[.int .u32 0, .int .u32 0, .int .u32 0, .int .u32 0, .int .u32 0, .int .u32 0, .int .u32 0, .int .u32 0, .int .u32 0, .int .u32 0] 90)
  rw [World.size_alloc] at n1
  have L0 : Below w.heap.size w ((w.alloc (.cells #[.int .u8 0, .int .u16 0, .int .u16 0, .int .u8 0, .int .u8 0, .int .u32 0, .int .u32 0, .slice none 0 0, .slice none 0 0] 51)).alloc (.cells #[.int .u32 0, .int .u32 0, .int .u32 0, .int .u32 0, .int .u32 0, .int .u32 0, .int .u32 0, .int .u32 0, .int .u32 0, .int .u32 0] 90)) := ((Below.refl _ w).alloc (Nat.le_refl _) _).alloc (by simp) _
  have hs0 : ((w.alloc (.cells #[.int .u8 0, .int .u16 0, .int .u16 0, .int .u8 0, .int .u8 0, .int .u32 0, .int .u32 0, .slice none 0 0, .slice none 0 0] 51)).alloc (.cells #[.int .u32 0, .int .u32 0, .int .u32 0, .int .u32 0, .int .u32 0, .int .u32 0, .int .u32 0, .int .u32 0, .int .u32 0, .int .u32 0] 90)).heap.size = w.heap.size + 2 := by simp
  clear d0
  gi_wp2
  rw [wpIn_wide]
  refine wp_scope_jumps 0 (fun a' w' => ∃ (y : Int) (D : Nat) (u0 u1 u3 u4 u5 u7 u8 u9 u10 u11 u12 u13 u14 u15 u16 u17 u18 u19 u20 u21 u22 u23 u24 u25 u26 u27 u28 u29 u30 u31 u32 u33 u34 u35 u36 u37 u38 u39 u40 u41 u42 u43 u44 u45 u46 u47 u48 u49 u50 u51 u52 u53 u54 u55 u56 u57 u58 u59 u60 u61 u62 u63 u64 : Value), a' = { tmps := #[u0, u1, .pointer (some ⟨w.heap.size, 0, none⟩), u3, u4, u5, .int .u8 y, u7, u8, u9, u10, u11, u12, u13, u14, u15, u16, u17, u18, u19, u20, u21, u22, u23, u24, u25, u26, u27, u28, u29, u30, u31, u32, u33, u34, u35, u36, u37, u38, u39, u40, u41, u42, u43, u44, u45, u46, u47, u48, u49, u50, u51, u52, u53, u54, u55, u56, u57, u58, u59, u60, u61, u62, u63, u64], defers := [{ target := .collected D, args := #[] }] } ∧ (y = whyOf bs ∧ 0 < y ∧ y < 7) ∧ w'.heap[w.heap.size]? = some (.cells #[.int .u8 0, .int .u16 0, .int .u16 0, .int .u8 0, .int .u8 0, .int .u32 0, .int .u32 0, .slice none 0 0, .slice none 0 0] 51 (0, 0)) ∧ Below w.heap.size w w' ∧ w'.heap[D]? = some (.deferred (some [])) ∧ w.heap.size + 3 ≤ D) (fun _ _ => 0) rfl ?first ?pass
  case pass =>
    rintro a' w' ⟨y, D, u0, u1, u3, u4, u5, u7, u8, u9, u10, u11, u12, u13, u14, u15, u16, u17, u18, u19, u20, u21, u22, u23, u24, u25, u26, u27, u28, u29, u30, u31, u32, u33, u34, u35, u36, u37, u38, u39, u40, u41, u42, u43, u44, u45, u46, u47, u48, u49, u50, u51, u52, u53, u54, u55, u56, u57, u58, u59, u60, u61, u62, u63, u64, rfl, ⟨hy, hy0, hy7⟩, hd, LL, hK, hD3⟩
    obtain ⟨⟨q0, q1, q2, q3, q4, q5, q6, q7, q8⟩, qf⟩ := nine_cells hd
    have f0 := qf 0
    have f1 := qf 1
    have f2 := qf 2
    have f3 := qf 3
    have f4 := qf 4
    have f5 := qf 5
    have f6 := qf 6
    have f7 := qf 7
    have f8 := qf 8
    have C5 := Lib.hid (full_setCells hd [.int .u8 0, .int .u16 0, .int .u16 0, .int .u8 0, .int .u8 0, .int .u32 0, .int .u32 0, .slice none 0 0, .slice none 0 0] rfl)
    have L5 := Lib.hid (below_setCells w.heap.size (Nat.le_refl _) [.int .u8 0, .int .u16 0, .int .u16 0, .int .u8 0, .int .u8 0, .int .u32 0, .int .u32 0, .slice none 0 0, .slice none 0 0] 0 w _ LL)
    have K5 := Lib.hid ((others_setCells w.heap.size [.int .u8 0, .int .u16 0, .int .u16 0, .int .u8 0, .int .u8 0, .int .u32 0, .int .u32 0, .slice none 0 0, .slice none 0 0] 0 w').same D _ hK rfl)
    have HY := Lib.hid hy
    clear d1 n1 L0 hs0 hy
    go_wp2
    simp only [Exit.jump]
    refine ⟨by simp, .inl ⟨_, _, rfl, run_takeDeferred K5.out, ?_⟩⟩
    refine ⟨_, results_head rfl _ _ w.heap.size _ (0, 0) rfl ((World.putObj_heap_other (by omega)).trans C5.out) rfl, ?_⟩
    refine .inl ⟨by rw [← HY.out]; omega, by rw [← HY.out]; rfl, ?_⟩
    exact L5.out.trans (belowK_b (w := w) (Nat.le_refl _) _ D _ _ (by omega) K5.out rfl rfl)
  case first =>
    rw [← wpIn_wide (n := n)]
    gi_wp2_with fail
    generalize (w.alloc (.cells #[.int .u8 0, .int .u16 0, .int .u16 0, .int .u8 0, .int .u8 0, .int .u32 0, .int .u32 0, .slice none 0 0, .slice none 0 0] 51)).alloc (.cells #[.int .u32 0, .int .u32 0, .int .u32 0, .int .u32 0, .int .u32 0, .int .u32 0, .int .u32 0, .int .u32 0, .int .u32 0, .int .u32 0] 90) = W0 at *
    refine ⟨trivial, (numbersIn_in (n - 1) a len cap W0).mono ?_⟩
    rintro e w1 ⟨rfl, rfl⟩
    have bS := Boxed.new W0 27 (.slice a len cap)
    have d2 := (Below.heap_alloc W0 (.cells #[.slice a len cap] 27) w.heap.size (by omega)).trans d1
    have n2 := (Below.heap_alloc W0 (.cells #[.slice a len cap] 27) (w.heap.size + 1) (by omega)).trans n1
    have L1 := L0.alloc (by omega) (.cells #[.slice a len cap] 27)
    have hW1 : Wid (W0.alloc (.cells #[.slice a len cap] 27)) := fun i hi => (L1.cell (p := ⟨0, i, none⟩) hg).trans (hW i hi)
    have hs1 : (W0.alloc (.cells #[.slice a len cap] 27)).heap.size = w.heap.size + 3 := by simp; omega
    rw [hs0] at bS
    clear d1 n1 L0
    gi_wp2
    generalize W0.alloc (.cells #[.slice a len cap] 27) = V at *
    refine wpIn_rangeFunc_ownG rfl h1n (gf := 70) (lb := #[.pointer (some ⟨w.heap.size + 2, 0, none⟩)]) rfl trivial (enters_of Tryd.func70 (by kernel_rfl) rfl)
      (nums_stops_in (n - 1) (by omega) (w.heap.size + 2) w.heap.size len cap a bs hin HL.out h20 hlc hc V (by omega) hg bS (hR.below L1) hW1) keep_t (keep_b (by omega)) (Below.refl _ _) (fun _ => rfl)
      (fun pre W => (W.heap[w.heap.size + 1]? = some (.cells ((fillOf pre).map (Value.int .u32)).toArray 90 (0, 0))) ∧ W.heap[w.heap.size]? = some (.cells #[.int .u8 0, .int .u16 0, .int .u16 0, .int .u8 0, .int .u8 0, .int .u32 0, .int .u32 0, .slice none 0 0, .slice none 0 0] 51 (0, 0)) ∧ Below w.heap.size w W ∧ V.heap.size ≤ W.heap.size)
      (fun _ _ _ => False)
      ?own
      (fun _ _ _ _ _ hs _ _ => hs)
      ⟨n2, d2, L1, Nat.le_refl _⟩
      (fun x => { tmps := #[.slice a len cap, undef, .pointer (some ⟨w.heap.size, 0, none⟩), .int .u8 0, .pointer (some ⟨w.heap.size + 1, 0, none⟩), .int .i64 0, .int .u8 1, .int .i64 x.1.1, .int .u32 x.1.2, .slice a len cap, .int .i64 len, .bool (decide ((len : Int) < 20)), .slice a len cap, .func (.func 70) #[] #[.pointer (some ⟨w.heap.size + 2, 0, none⟩)], .int .i64 x.1.1, .int .u32 x.1.2, undef, undef, undef, undef, undef, undef, undef, undef, undef, undef, undef, undef, undef, undef, undef, undef, undef, undef, undef, undef, undef, undef, undef, undef, undef, undef, undef, undef, undef, undef, undef, undef, undef, undef, undef, undef, undef, undef, undef, undef, undef, undef, undef, undef, undef, undef, undef, undef, undef], defers := [] }) ?assign ?body ?done ?stop
    case own =>
      rintro pre W W' row ⟨hN, hD, hb, hv⟩ hgr hr
      exact ⟨(hgr.block _ (by omega) (fun e => by have := (hr _ e.symm).1; omega)).trans hN, (hgr.block _ (by omega) (fun e => by have := (hr _ e.symm).1; omega)).trans hD, hb.grown hgr hb.size (fun k e => by have := (hr k e).1; omega), Nat.le_trans hv hgr.size⟩
    case assign =>
      intro l x W K hK
      gi_wp2
      exact hK
    case body =>
      rintro l pre x W ⟨hN, hD, hb, hv⟩ hlt
      have hx := x.2
      have hfl := fillOf_length pre
      have hcx : W.cell? ⟨w.heap.size + 1, x.1.1, none⟩ = some (.int .u32 ((fillOf pre)[x.1.1]?.getD 0)) := by
        rw [cell_of_row _ _ _ _ _ _ hN]
        simp [show x.1.1 < (fillOf pre).length by omega]
      have hfx : W.frozen? ⟨w.heap.size + 1, x.1.1, none⟩ = false := by simp [World.frozen?, hN]
      gi_wp2
      refine ⟨(KeepsOthers.setCell _ _ _).from _, Keep.setCell W (p := ⟨w.heap.size + 1, x.1.1, none⟩) (by simp) (by simp) _, ?_, ?_, hb.setCell (p := ⟨w.heap.size + 1, x.1.1, none⟩) (by simp) _, ?_⟩
      · rw [heap_setCell_same W (w.heap.size + 1) x.1.1 _ _ _ hN, fillOf_snoc]
        simp
      · exact (Below.heap_setCell W ⟨w.heap.size + 1, x.1.1, none⟩ _ w.heap.size (by simp)).trans hD
      · rw [World.size_setCell]; exact hv
    case stop =>
      rintro D c pre W _ _ h _
      exact h.elim
    case done =>
      rintro D ys W hD2 hys ⟨hN, hD, hb, hv⟩ hK
      rw [hys, fillOf_all] at hN
      have b0 := segAt_lt hin 0
      have b2 := segAt_lt hin 2
      have b4 := segAt_lt hin 4
      have b7 := segAt_lt hin 7
      have z0 := (segAt_in hin 0).1
      have z2 := (segAt_in hin 2).1
      have z4 := (segAt_in hin 4).1
      have z7 := (segAt_in hin 7).1
      simp only [widthAt, List.getElem?_cons_zero, List.getElem?_cons_succ, Option.getD_some] at b0 b2 b4 b7
      have q0 : W.cell? ⟨w.heap.size + 1, 0, none⟩ = some (.int .u32 (segAt bs 0)) := by rw [cell_of_row _ _ _ _ _ _ hN]; rfl
      have q2 : W.cell? ⟨w.heap.size + 1, 2, none⟩ = some (.int .u32 (segAt bs 2)) := by rw [cell_of_row _ _ _ _ _ _ hN]; rfl
      have q4 : W.cell? ⟨w.heap.size + 1, 4, none⟩ = some (.int .u32 (segAt bs 4)) := by rw [cell_of_row _ _ _ _ _ _ hN]; rfl
      have q7 : W.cell? ⟨w.heap.size + 1, 7, none⟩ = some (.int .u32 (segAt bs 7)) := by rw [cell_of_row _ _ _ _ _ _ hN]; rfl
      have hA := and15 (segAt bs 0) z0 (by omega)
      have HH := Lib.hid (show hlOf bs = (segAt bs 0 % 16 * 4).toNat from rfl)
      have LN := Lib.hid (show ¬ bs.length < 20 by rw [HL.out]; omega)
      simp only [Exit.inBlock, Exit.then]
      apply_assumption
      rw [wpIn_wide]
      by_cases e2 : (segAt bs 0 / 16 != 4) = true
      · go_wp2
        go_step3
        have hy : Hid ((2 : Int) = whyOf bs) := Lib.hid <| by
          unfold whyOf
          rw [if_neg LN.out, if_pos (by simpa using e2)]
        exact ⟨rfl, 2, D, _, _, _, _, _, _, _, _, _, _, _, _, _, _, _, _, _, _, _, _, _, _, _, _, _, _, _, _, _, _, _, _, _, _, _, _, _, _, _, _, _, _, _, _, _, _, _, _, _, _, _, _, _, _, _, _, _, _, _, _, _, _, _, rfl, ⟨hy.out, by omega, by omega⟩, hD, hb, hK, by omega⟩
      have f2 : segAt bs 0 / 16 = 4 := by simpa using e2
      have e2' : (segAt bs 0 / 16 != 4) = false := by simpa using e2
      clear e2
      by_cases e3 : segAt bs 0 % 16 * 4 < 20
      · have e3' : decide (segAt bs 0 % 16 * 4 < 20) = true := decide_eq_true e3
        have hy : Hid ((3 : Int) = whyOf bs) := Lib.hid <| by
          unfold whyOf
          rw [if_neg LN.out, if_neg (by omega), if_pos (.inl (by rw [HH.out]; omega))]
        go_wp2
        go_step3
        exact ⟨rfl, 3, D, _, _, _, _, _, _, _, _, _, _, _, _, _, _, _, _, _, _, _, _, _, _, _, _, _, _, _, _, _, _, _, _, _, _, _, _, _, _, _, _, _, _, _, _, _, _, _, _, _, _, _, _, _, _, _, _, _, _, _, _, _, _, _, rfl, ⟨hy.out, by omega, by omega⟩, hD, hb, hK, by omega⟩
      have e3' : decide (segAt bs 0 % 16 * 4 < 20) = false := decide_eq_false e3
      by_cases e4 : (len : Int) < segAt bs 0 % 16 * 4
      · have e4' : decide ((len : Int) < segAt bs 0 % 16 * 4) = true := decide_eq_true e4
        have hy : Hid ((3 : Int) = whyOf bs) := Lib.hid <| by
          unfold whyOf
          rw [if_neg LN.out, if_neg (by omega), if_pos (.inr (by rw [HH.out, HL.out]; omega))]
        go_wp2
        go_step3
        exact ⟨rfl, 3, D, _, _, _, _, _, _, _, _, _, _, _, _, _, _, _, _, _, _, _, _, _, _, _, _, _, _, _, _, _, _, _, _, _, _, _, _, _, _, _, _, _, _, _, _, _, _, _, _, _, _, _, _, _, _, _, _, _, _, _, _, _, _, _, rfl, ⟨hy.out, by omega, by omega⟩, hD, hb, hK, by omega⟩
      have e4' : decide ((len : Int) < segAt bs 0 % 16 * 4) = false := decide_eq_false e4
      by_cases e5 : (segAt bs 2 != (len : Int)) = true
      · have hy : Hid ((4 : Int) = whyOf bs) := Lib.hid <| by
          unfold whyOf
          rw [if_neg LN.out, if_neg (by omega), if_neg (by rw [HH.out, HL.out]; omega), if_pos (by rw [HL.out]; simpa using e5)]
        go_wp2
        go_step3
        exact ⟨rfl, 4, D, _, _, _, _, _, _, _, _, _, _, _, _, _, _, _, _, _, _, _, _, _, _, _, _, _, _, _, _, _, _, _, _, _, _, _, _, _, _, _, _, _, _, _, _, _, _, _, _, _, _, _, _, _, _, _, _, _, _, _, _, _, _, _, rfl, ⟨hy.out, by omega, by omega⟩, hD, hb, hK, by omega⟩
      have e5' : (segAt bs 2 != (len : Int)) = false := by simpa using e5
      have f5 : segAt bs 2 = len := by simpa using e5
      obtain ⟨b, off, rfl, hbw, hcz⟩ := hR.2 (by rw [HL.out]; omega)
      clear hcz e5
      have hl1 : (0 : Int) ≤ segAt bs 0 % 16 * 4 := by omega
      have hl2 : segAt bs 0 % 16 * 4 ≤ (cap : Int) := by omega
      have RT : Row .u8 W.drew.heap.size W.drew (some ⟨b, off, none⟩) (bs.take (segAt bs 0 % 16 * 4).toNat) := ((hR.step hb).take _)
      have hTL : (bs.take (segAt bs 0 % 16 * 4).toNat).length = (segAt bs 0 % 16 * 4).toNat := by rw [List.length_take, HL.out]; omega
      have hw16 : IntKind.u16.wrap (segAt bs 7) = segAt bs 7 := by rw [wrap_u16]; omega
      have hbn : w.heap.size + 1 < W.heap.size := by omega
      have HT := Lib.hid hTL
      have RT := Lib.hid RT
      have HCK := Lib.hid (show chkOf (bs.take (hlOf bs)) = chkOf (bs.take (segAt bs 0 % 16 * 4).toNat) from rfl)
      clear hTL
      go_wp2
      go_region_held3 (fun w' => w'.cell? ⟨w.heap.size + 1, 7, none⟩ = some (.int .u32 (segAt bs 7))) (first | with_reducible exact p7 | with_reducible exact q7 | exact q7)
        (first
          | (go_at_call 58; refine (checkOf_any _ _ _ (bs.take (segAt bs 0 % 16 * 4).toNat) HT.out (by omega) (by omega) W.drew RT.out (fun h => by cases h)).mono ?_; rintro e w8 ⟨rfl, m8'⟩; have m8 : Below W.heap.size W w8 := below_drew m8'; have p7 := (m8.cell (p := ⟨w.heap.size + 1, 7, none⟩) hbn).trans q7))
      have N8 := (m8.block (w.heap.size + 1) hbn).trans hN
      have D8 := (m8.block w.heap.size (by omega)).trans hD
      have L8 := hb.trans (m8.mono hb.size)
      have K8 := (m8.block D (Array.getElem?_eq_some_iff.1 hK).1).trans hK
      have p4 := (m8.cell (p := ⟨w.heap.size + 1, 4, none⟩) hbn).trans q4
      have s8 := m8.size
      clear q0 q2 q4 q7 m8 m8' hN hD hb hK RT hA
      by_cases e6 : (segAt bs 7 != chkOf (bs.take (segAt bs 0 % 16 * 4).toNat)) = true
      · have hy : Hid ((5 : Int) = whyOf bs) := Lib.hid <| by
          unfold whyOf
          rw [if_neg LN.out, if_neg (by omega), if_neg (by rw [HH.out, HL.out]; omega), if_neg (by rw [HL.out]; omega), if_pos (by rw [HCK.out]; simpa using e6)]
        go_wp2
        go_step3
        exact ⟨rfl, 5, D, _, _, _, _, _, _, _, _, _, _, _, _, _, _, _, _, _, _, _, _, _, _, _, _, _, _, _, _, _, _, _, _, _, _, _, _, _, _, _, _, _, _, _, _, _, _, _, _, _, _, _, _, _, _, _, _, _, _, _, _, _, _, _, rfl, ⟨hy.out, by omega, by omega⟩, D8, L8, K8, by omega⟩
      have e6' : (segAt bs 7 != chkOf (bs.take (segAt bs 0 % 16 * 4).toNat)) = false := by simpa using e6
      have f6 : Hid (segAt bs 7 = chkOf (bs.take (hlOf bs))) := Lib.hid (by rw [HCK.out]; simpa using e6)
      clear e6
      have hw4 : IntKind.u16.wrap (segAt bs 4) = segAt bs 4 := by rw [wrap_u16]; omega
      by_cases e7 : segAt bs 4 ≠ 0 ∧ segAt bs 4 ≠ 16384
      · have hy : Hid ((6 : Int) = whyOf bs) := Lib.hid <| by
          unfold whyOf
          rw [if_neg LN.out, if_neg (by omega), if_neg (by rw [HH.out, HL.out]; omega), if_neg (by rw [HL.out]; omega), if_neg (by rw [f6.out]; simp), if_pos e7]
        have e7' : (bits .andNot .u16 (segAt bs 4) 16384 != 0) = true := by rw [andNot_flag _ z4 (by omega)]; exact decide_eq_true e7
        go_wp2
        go_step3
        exact ⟨rfl, 6, D, _, _, _, _, _, _, _, _, _, _, _, _, _, _, _, _, _, _, _, _, _, _, _, _, _, _, _, _, _, _, _, _, _, _, _, _, _, _, _, _, _, _, _, _, _, _, _, _, _, _, _, _, _, _, _, _, _, _, _, _, _, _, _, rfl, ⟨hy.out, by omega, by omega⟩, D8, L8, K8, by omega⟩
      have e7' : (bits .andNot .u16 (segAt bs 4) 16384 != 0) = false := by rw [andNot_flag _ z4 (by omega)]; exact decide_eq_false e7
      have hy : Hid (whyOf bs = 0) := Lib.hid <| by
        unfold whyOf
        rw [if_neg LN.out, if_neg (by omega), if_neg (by rw [HH.out, HL.out]; omega), if_neg (by rw [HL.out]; omega), if_neg (by rw [f6.out]; simp), if_neg e7]
      have r8 : w8.rangeAt (w.heap.size + 1) 0 [.int .u32 (segAt bs 0), .int .u32 (segAt bs 1), .int .u32 (segAt bs 2), .int .u32 (segAt bs 3), .int .u32 (segAt bs 4), .int .u32 (segAt bs 5), .int .u32 (segAt bs 6), .int .u32 (segAt bs 7), .int .u32 (segAt bs 8), .int .u32 (segAt bs 9)] := rangeAt_row N8
      have hu50 := Tryd.underlying90
      have hi50 := Tryd.info50
      have hl3 : (20 : Int) ≤ segAt bs 0 % 16 * 4 := by omega
      have hl4 : segAt bs 0 % 16 * 4 ≤ (len : Int) := by omega
      clear e7
      go_wp2
      have ho9 : ((bs.take (segAt bs 0 % 16 * 4).toNat).drop 20).length = (segAt bs 0 % 16 * 4).toNat - 20 := by rw [List.length_drop, HT.out]
      have hp9 : (bs.drop (segAt bs 0 % 16 * 4).toNat).length = len - (segAt bs 0 % 16 * 4).toNat := by rw [List.length_drop, HL.out]
      have R8 := hR.step L8
      have R8 : Row .u8 w8.drew.heap.size w8.drew (some ⟨b, off, none⟩) bs := R8
      have RO := (R8.take (segAt bs 0 % 16 * 4).toNat).dropIf 20 (c := cap = 20) (fun h => List.eq_nil_of_length_eq_zero (by rw [ho9]; omega))
      have RP := R8.dropIf (segAt bs 0 % 16 * 4).toNat (c := cap = (segAt bs 0 % 16 * 4).toNat) (fun h => List.eq_nil_of_length_eq_zero (by rw [hp9]; omega))
      have NO : (if cap = 20 then some (⟨b, off, none⟩ : Addr) else some ⟨b, off + 20, none⟩) = none → cap - 20 = 0 := fun h => by split at h <;> cases h
      have NP : (if cap = (segAt bs 0 % 16 * 4).toNat then some (⟨b, off, none⟩ : Addr) else some ⟨b, off + (segAt bs 0 % 16 * 4).toNat, none⟩) = none → cap - (segAt bs 0 % 16 * 4).toNat = 0 := fun h => by split at h <;> cases h
      obtain ⟨AO, hAO⟩ : ∃ A, (if cap = 20 then some (⟨b, off, none⟩ : Addr) else some ⟨b, off + 20, none⟩) = A := ⟨_, rfl⟩
      obtain ⟨AP, hAP⟩ : ∃ A, (if cap = (segAt bs 0 % 16 * 4).toNat then some (⟨b, off, none⟩ : Addr) else some ⟨b, off + (segAt bs 0 % 16 * 4).toNat, none⟩) = A := ⟨_, rfl⟩
      rw [hAO] at RO NO
      rw [hAP] at RP NP
      obtain ⟨OS, hOS⟩ : ∃ l, (bs.take (segAt bs 0 % 16 * 4).toNat).drop 20 = l := ⟨_, rfl⟩
      obtain ⟨PS, hPS⟩ : ∃ l, bs.drop (segAt bs 0 % 16 * 4).toNat = l := ⟨_, rfl⟩
      rw [hOS] at RO ho9
      rw [hPS] at RP hp9
      have HOS := Lib.hid hOS
      have HPS := Lib.hid hPS
      clear hOS hPS
      have RO := Lib.hid RO
      have RP := Lib.hid RP
      have NO := Lib.hid NO
      have NP := Lib.hid NP
      have HO9 := Lib.hid ho9
      have HP9 := Lib.hid hp9
      have hbn8 : w.heap.size + 1 < w8.heap.size := by omega
      have hne1 : w.heap.size + 1 ≠ w.heap.size := by omega
      clear ho9 hp9 R8 p7 p4
      go_region_held3 (fun w' => w'.rangeAt (w.heap.size + 1) 0 [.int .u32 (segAt bs 0), .int .u32 (segAt bs 1), .int .u32 (segAt bs 2), .int .u32 (segAt bs 3), .int .u32 (segAt bs 4), .int .u32 (segAt bs 5), .int .u32 (segAt bs 6), .int .u32 (segAt bs 7), .int .u32 (segAt bs 8), .int .u32 (segAt bs 9)]) (first | with_reducible exact rangeAt_s9 hne1 r9 | with_reducible exact r9 | with_reducible exact r8 | exact r8)
        (first
          | (go_at_call 59; refine (headOf_any _ _ _ _ _ _ _ _ _ _ _ _ _ _ _ _ OS PS w8.drew RO.out HO9.out NO.out RP.out HP9.out NP.out (by omega) (by omega)).mono ?_; rintro e w9 ⟨v9, rfl, oa9, oc9, pa9, pc9, rfl, hO9, hP9, m9'⟩; have m9 : Below w8.heap.size w8 w9 := below_drew m9'; have r9 := rangeAt_below r8 m9 hbn8; have D9 := (m9.block w.heap.size (by omega)).trans D8; obtain ⟨⟨z0', z1', z2', z3', z4', z5', z6', z7', z8'⟩, zf⟩ := nine_cells D9; have y0 := zf 0; have y1 := zf 1; have y2 := zf 2; have y3 := zf 3; have y4 := zf 4; have y5 := zf 5; have y6 := zf 6; have y7 := zf 7; have y8 := zf 8))
      have C10 : (((((((((w9.setCell ⟨w.heap.size, 0, none⟩ (.int .u8 (segAt bs 1 % 256))).setCell ⟨w.heap.size, 1, none⟩ (.int .u16 (segAt bs 3 % 65536))).setCell ⟨w.heap.size, 2, none⟩ (.int .u16 (segAt bs 4 % 65536))).setCell ⟨w.heap.size, 3, none⟩ (.int .u8 (segAt bs 5 % 256))).setCell ⟨w.heap.size, 4, none⟩ (.int .u8 (segAt bs 6 % 256))).setCell ⟨w.heap.size, 5, none⟩ (.int .u32 (segAt bs 8))).setCell ⟨w.heap.size, 6, none⟩ (.int .u32 (segAt bs 9))).setCell ⟨w.heap.size, 7, none⟩ (.slice oa9 OS.length oc9)).setCell ⟨w.heap.size, 8, none⟩ (.slice pa9 PS.length pc9)).heap[w.heap.size]? = some (.cells #[.int .u8 (segAt bs 1 % 256), .int .u16 (segAt bs 3 % 65536), .int .u16 (segAt bs 4 % 65536), .int .u8 (segAt bs 5 % 256), .int .u8 (segAt bs 6 % 256), .int .u32 (segAt bs 8), .int .u32 (segAt bs 9), .slice oa9 OS.length oc9, .slice pa9 PS.length pc9] 51 (0, 0)) := full_setCells D9 [.int .u8 (segAt bs 1 % 256), .int .u16 (segAt bs 3 % 65536), .int .u16 (segAt bs 4 % 65536), .int .u8 (segAt bs 5 % 256), .int .u8 (segAt bs 6 % 256), .int .u32 (segAt bs 8), .int .u32 (segAt bs 9), .slice oa9 OS.length oc9, .slice pa9 PS.length pc9] rfl
      have L10 : Below w.heap.size w (((((((((w9.setCell ⟨w.heap.size, 0, none⟩ (.int .u8 (segAt bs 1 % 256))).setCell ⟨w.heap.size, 1, none⟩ (.int .u16 (segAt bs 3 % 65536))).setCell ⟨w.heap.size, 2, none⟩ (.int .u16 (segAt bs 4 % 65536))).setCell ⟨w.heap.size, 3, none⟩ (.int .u8 (segAt bs 5 % 256))).setCell ⟨w.heap.size, 4, none⟩ (.int .u8 (segAt bs 6 % 256))).setCell ⟨w.heap.size, 5, none⟩ (.int .u32 (segAt bs 8))).setCell ⟨w.heap.size, 6, none⟩ (.int .u32 (segAt bs 9))).setCell ⟨w.heap.size, 7, none⟩ (.slice oa9 OS.length oc9)).setCell ⟨w.heap.size, 8, none⟩ (.slice pa9 PS.length pc9)) := below_setCells w.heap.size (Nat.le_refl _) [.int .u8 (segAt bs 1 % 256), .int .u16 (segAt bs 3 % 65536), .int .u16 (segAt bs 4 % 65536), .int .u8 (segAt bs 5 % 256), .int .u8 (segAt bs 6 % 256), .int .u32 (segAt bs 8), .int .u32 (segAt bs 9), .slice oa9 OS.length oc9, .slice pa9 PS.length pc9] 0 w _ (L8.trans (m9.mono L8.size))
      have O10 : (((((((((w9.setCell ⟨w.heap.size, 0, none⟩ (.int .u8 (segAt bs 1 % 256))).setCell ⟨w.heap.size, 1, none⟩ (.int .u16 (segAt bs 3 % 65536))).setCell ⟨w.heap.size, 2, none⟩ (.int .u16 (segAt bs 4 % 65536))).setCell ⟨w.heap.size, 3, none⟩ (.int .u8 (segAt bs 5 % 256))).setCell ⟨w.heap.size, 4, none⟩ (.int .u8 (segAt bs 6 % 256))).setCell ⟨w.heap.size, 5, none⟩ (.int .u32 (segAt bs 8))).setCell ⟨w.heap.size, 6, none⟩ (.int .u32 (segAt bs 9))).setCell ⟨w.heap.size, 7, none⟩ (.slice oa9 OS.length oc9)).setCell ⟨w.heap.size, 8, none⟩ (.slice pa9 PS.length pc9)).ownsRow _ _ 1 _ _ _ := own_apartN (by decide) [.int .u8 (segAt bs 1 % 256), .int .u16 (segAt bs 3 % 65536), .int .u16 (segAt bs 4 % 65536), .int .u8 (segAt bs 5 % 256), .int .u8 (segAt bs 6 % 256), .int .u32 (segAt bs 8), .int .u32 (segAt bs 9), .slice oa9 OS.length oc9, .slice pa9 PS.length pc9] 0 _ _ hO9 D9
      have P10 : (((((((((w9.setCell ⟨w.heap.size, 0, none⟩ (.int .u8 (segAt bs 1 % 256))).setCell ⟨w.heap.size, 1, none⟩ (.int .u16 (segAt bs 3 % 65536))).setCell ⟨w.heap.size, 2, none⟩ (.int .u16 (segAt bs 4 % 65536))).setCell ⟨w.heap.size, 3, none⟩ (.int .u8 (segAt bs 5 % 256))).setCell ⟨w.heap.size, 4, none⟩ (.int .u8 (segAt bs 6 % 256))).setCell ⟨w.heap.size, 5, none⟩ (.int .u32 (segAt bs 8))).setCell ⟨w.heap.size, 6, none⟩ (.int .u32 (segAt bs 9))).setCell ⟨w.heap.size, 7, none⟩ (.slice oa9 OS.length oc9)).setCell ⟨w.heap.size, 8, none⟩ (.slice pa9 PS.length pc9)).ownsRow _ _ 1 _ _ _ := own_apartN (by decide) [.int .u8 (segAt bs 1 % 256), .int .u16 (segAt bs 3 % 65536), .int .u16 (segAt bs 4 % 65536), .int .u8 (segAt bs 5 % 256), .int .u8 (segAt bs 6 % 256), .int .u32 (segAt bs 8), .int .u32 (segAt bs 9), .slice oa9 OS.length oc9, .slice pa9 PS.length pc9] 0 _ _ hP9 D9
      have K10 : (((((((((w9.setCell ⟨w.heap.size, 0, none⟩ (.int .u8 (segAt bs 1 % 256))).setCell ⟨w.heap.size, 1, none⟩ (.int .u16 (segAt bs 3 % 65536))).setCell ⟨w.heap.size, 2, none⟩ (.int .u16 (segAt bs 4 % 65536))).setCell ⟨w.heap.size, 3, none⟩ (.int .u8 (segAt bs 5 % 256))).setCell ⟨w.heap.size, 4, none⟩ (.int .u8 (segAt bs 6 % 256))).setCell ⟨w.heap.size, 5, none⟩ (.int .u32 (segAt bs 8))).setCell ⟨w.heap.size, 6, none⟩ (.int .u32 (segAt bs 9))).setCell ⟨w.heap.size, 7, none⟩ (.slice oa9 OS.length oc9)).setCell ⟨w.heap.size, 8, none⟩ (.slice pa9 PS.length pc9)).heap[D]? = some (.deferred (some [])) := (others_setCells w.heap.size [.int .u8 (segAt bs 1 % 256), .int .u16 (segAt bs 3 % 65536), .int .u16 (segAt bs 4 % 65536), .int .u8 (segAt bs 5 % 256), .int .u8 (segAt bs 6 % 256), .int .u32 (segAt bs 8), .int .u32 (segAt bs 9), .slice oa9 OS.length oc9, .slice pa9 PS.length pc9] 0 w9).same D _ ((m9.block D (Array.getElem?_eq_some_iff.1 K8).1).trans K8) rfl
      clear z0' z1' z2' z3' z4' z5' z6' z7' z8' zf y0 y1 y2 y3 y4 y5 y6 y7 y8 r9 r8 D9 m9 m9'
      generalize (((((((((w9.setCell ⟨w.heap.size, 0, none⟩ (.int .u8 (segAt bs 1 % 256))).setCell ⟨w.heap.size, 1, none⟩ (.int .u16 (segAt bs 3 % 65536))).setCell ⟨w.heap.size, 2, none⟩ (.int .u16 (segAt bs 4 % 65536))).setCell ⟨w.heap.size, 3, none⟩ (.int .u8 (segAt bs 5 % 256))).setCell ⟨w.heap.size, 4, none⟩ (.int .u8 (segAt bs 6 % 256))).setCell ⟨w.heap.size, 5, none⟩ (.int .u32 (segAt bs 8))).setCell ⟨w.heap.size, 6, none⟩ (.int .u32 (segAt bs 9))).setCell ⟨w.heap.size, 7, none⟩ (.slice oa9 OS.length oc9)).setCell ⟨w.heap.size, 8, none⟩ (.slice pa9 PS.length pc9)) = W10 at *
      go_wp2
      simp only [Exit.jump]
      refine ⟨by simp, .inl ⟨_, _, rfl, run_takeDeferred K10, ?_⟩⟩
      refine ⟨_, results_head rfl _ _ w.heap.size _ (0, 0) rfl ((World.putObj_heap_other (by omega)).trans C10) rfl, ?_⟩
      have hr : ∀ r, some D = some r → ∃ o : Obj, W10.heap[r]? = some o ∧ o.isCells = false := fun r e => by cases e; exact ⟨_, K10, rfl⟩
      have hE1 : (bs.take (hlOf bs)).drop 20 = OS := by rw [HH.out]; exact HOS.out
      have hE2 : bs.drop (hlOf bs) = PS := by rw [HH.out]; exact HPS.out
      unfold ParseRet
      rw [hE1, hE2]
      refine .inr ⟨hy.out, _, rfl, oa9, oc9, pa9, pc9, rfl, own_base (own_abides O10 (grownBy_putObj' _ D (.deferred none)) hr) (by show w.heap.size ≤ w8.heap.size; omega), own_base (own_abides P10 (grownBy_putObj' _ D (.deferred none)) hr) (by show w.heap.size ≤ w8.heap.size; omega), ?_⟩
      exact L10.trans (belowK_b (w := w) (Nat.le_refl _) _ D _ _ (by omega) K10 rfl rfl)

theorem ipParse_any (a : Option Addr) (len cap : Nat) (bs : List Int) (hlen : bs.length = len) (hlc : len ≤ cap) (hc : cap ≤ 9223372036854775807) (hln : len ≤ 1000000) (w : World) (hg : 0 < w.heap.size) (hW : Wid w) (hR : Row .u8 w.heap.size w a bs) :
    Calls Tryd.prog 34 #[.slice a len cap] w (ParseRet bs w) := by
  rcases Nat.lt_or_ge len 20 with h | h
  · refine (ipParse_short a len cap h w).mono ?_
    rintro e w' ⟨rfl, m⟩
    have hy : whyOf bs = 1 := by
      unfold whyOf
      rw [if_pos (by omega)]
    exact .inl ⟨by omega, by rw [hy], m⟩
  · exact callsIn_wide.1 (ipParse_in 4 (by omega) a len cap bs hlen h hlc hc hln w hg hW hR)
end Go.Proofs.YthenbpnlmpeafaaDoor
