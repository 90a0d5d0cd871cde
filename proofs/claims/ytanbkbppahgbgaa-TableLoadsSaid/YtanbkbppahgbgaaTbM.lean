/- How far loads are apart: package table's: the loads one by one, slices.Collect of them. -/
import Derived.Test.YtanbkbppahgbgaaTbK
import Derived.Test.YtanbkbppahgbgaaRangeOkF
import Derived.Sort.CutIn
namespace Go.Proofs.Ytanbkbppahgbgaa
open Go.RowKit Go.Shelf
open SumM

attribute [local go_sem] Oper.semAt_some zero_tab build_tab guard_undef
attribute [local go_sem ↓] nm_ldT nm_ldA nm_ldN nm_stT nm_stN

set_option maxRecDepth 100000 in
set_option maxHeartbeats 2000000 in
theorem loadsOf_in (n : Nat) (T : Nat → Int) (s : Int) (w : World) :
    CallsIn Fence.wide n Try.prog 36 #[tabV T, .int .u8 s] w fun e w' => e = .returned (.func (.func 44) #[] #[.pointer (some ⟨w.heap.size, 0, none⟩), .pointer (some ⟨w.heap.size + 1, 0, none⟩)]) ∧ w' = (w.alloc (.cells (numL 65 T).toArray 26)).alloc (.cells #[.int .u8 s] 5) := by
  refine callsIn_of_wp Try.func36 rfl trivial ?_ rfl
  simp only [Try.ntmps36, List.size_toArray, List.length_cons, List.length_nil, Nat.reduceAdd, Nat.reduceSub, Array.replicate_succ, Array.replicate_zero, List.push_toArray, List.append_toArray, List.nil_append, List.cons_append]
  gi_wp2
  go_ret
  exact ⟨rfl, rfl⟩

set_option maxRecDepth 100000 in
theorem idx_num (T : Nat → Int) (W : World) : ∀ (i : Nat), i < 6 → (Instr.index 34 (numsV T) (.int .i64 (i : Nat))).run Try.prog W = .ok (.int .i64 (T i)) W
  | 0, _ => by kernel_rfl
  | 1, _ => by kernel_rfl
  | 2, _ => by kernel_rfl
  | 3, _ => by kernel_rfl
  | 4, _ => by kernel_rfl
  | 5, _ => by kernel_rfl
  | n + 6, h => absurd h (by omega)

/-- What is handed out: a number. -/
def encN (x : Int) : Array Value := #[.int .i64 x]
/-- What comes behind those that came. -/
def PkOk (s : Int) (L : Nat → Int) (pre : List Int) (x : Int) : Prop := ∃ k, k < 6 ∧ bt s k = true ∧ pre = pkL s L k ∧ x = L k
theorem shr_pow (s : Int) (k : Nat) (h : k < 6) : s / 2 ^ min k 64 = s / 2 ^ k := by rw [show min k 64 = k by omega]

set_option maxRecDepth 100000 in
set_option maxHeartbeats 4000000 in
theorem loadsIter_in (n : Nat) (hn : 4 ≤ n) (B B' : Nat) (T : Nat → Int) (s : Int) (n0 : Nat) (hBn : B' < n0) (l : Nat) (J Jx : List Int → World → Prop) (W : World) (hW : n0 ≤ W.heap.size) (hb : NB B 26 65 T W) (hb' : W.heap[B']? = some (.cells #[.int .u8 s] 5 (0, 0)))
    (hN : ∀ pre V V', J pre V → Below V.heap.size V V' → J pre V')
    (hY : ∀ pre x V, J pre V → PkOk s (lodT T 16) pre x → YieldAt Fence.wide (n - 1) Try.prog l (encN x) V fun e V' => (e = .returned (.bool true) ∧ J (pre ++ [x]) V' ∧ (n0 ≤ V.heap.size → Below n0 V V')) ∨ (e = .returned (.bool false) ∧ Jx (pre ++ [x]) V'))
    (h0 : J [] W) :
    CallsIn Fence.wide n Try.prog 44 #[.func (.yield l) #[] #[], .pointer (some ⟨B, 0, none⟩), .pointer (some ⟨B', 0, none⟩)] W fun e W' => (∃ v, e = .returned v) ∧
      ((∃ xs, xs = pkL s (lodT T 16) 6 ∧ J xs W') ∨ (∃ pre, True ∧ Jx pre W')) := by
  have KL := Lib.hid (loads_any T W)
  generalize lodT T 16 = L at *
  refine callsIn_of_wp Try.func44 rfl trivial ?_ rfl
  simp only [Try.ntmps44, List.size_toArray, List.length_cons, List.length_nil, Nat.reduceAdd, Nat.reduceSub, Array.replicate_succ, Array.replicate_zero, List.push_toArray, List.append_toArray, List.nil_append, List.cons_append]
  have q := ld_tab hb
  have HN := Lib.hid hN
  have HY := Lib.hid hY
  have HB := Lib.hid hb'
  have HW := Lib.hid hW
  clear hN hY hb hb' hW
  gi_wp2_with fail
  refine ⟨trivial, (fun _ => by omega), (callsIn_wide.2 KL.out).mono ?_⟩
  rintro e w1 ⟨rfl, m1⟩
  have hJ1 := HN.out _ _ _ h0 m1
  have hL1 : Below n0 W w1 := m1.mono HW.out
  clear q h0 m1
  gi_wp2
  gi_loopw [8] (fun i wr => ∃ k : Nat, k ≤ 6 ∧ i = .int .i64 (k : Nat) ∧ J (pkL s L k) wr ∧ Below n0 W wr) (fun i _ => 6 - (intOf i).toNat)
  case atStart => exact ⟨0, by omega, rfl, hJ1, hL1⟩
  case round =>
    obtain ⟨k, hk, rfl, hJ, hL⟩ := hrel
    have HJ := Lib.hid hJ
    have HL := Lib.hid hL
    have cs := Boxed.cell (show Boxed wr B' 5 (.int .u8 s) from (hL.block _ hBn).trans HB.out)
    clear hJ hL hJ1 hL1
    by_cases hlt : k < 6
    · have hx := idx_num L wr k hlt
      have hk1 : (k : Int) < 6 := by omega
      obtain ⟨p, hp⟩ : ∃ p, bt s k = p := ⟨_, rfl⟩
      have ht : (bits BinOp.and IntKind.u8 (s / 2 ^ k) 1 == 1) = p := hp
      cases p
      · have HY0 := Lib.hid (pkL_no (L := L) hp)
        have HK6 := Lib.hid hk
        clear hp
        gi_wp2
        refine ⟨fun f h => (by cases h), ?_⟩
        apply_assumption
        gi_wp2
        go_roundw
        case rel => exact ⟨k + 1, by omega, by go_num, by rw [HY0.out]; exact HJ.out, HL.out⟩
        case measure => simp [intOf]; omega
      · have HY0 := Lib.hid (pkL_yes (L := L) hp)
        obtain ⟨fn, tmps, assign, body, hy, hr⟩ := HY.out (pkL s L k) (L k) _ HJ.out ⟨k, hlt, hp, rfl, rfl⟩
        have y := (show (Instr.yield l #[.int .i64 (L k)]).run Try.prog _ = .ok (.round l fn tmps assign body) _ from hy)
        have HR := Lib.hid hr
        clear hp hy hr
        gi_wp2
        refine ⟨fun _ => by omega, HR.out.mono ?_⟩
        rintro e3 W3 (⟨rfl, J3, K3⟩ | ⟨rfl, Jx3⟩)
        · have HJ3 := Lib.hid J3
          have HK3 := Lib.hid (HL.out.trans (K3 (Nat.le_trans HW.out HL.out.size)))
          clear J3 K3 y hx ht cs HR
          gi_wp2
          go_roundw
          case rel => exact ⟨k + 1, by omega, by go_num, by rw [HY0.out]; exact HJ3.out, HK3.out⟩
          case measure => simp [intOf]; omega
        · have HJ3 := Lib.hid Jx3
          clear Jx3 y hx ht cs HR
          gi_wp2
          refine bodyPost_ret (results_none rfl _ _ _) rfl ?_
          exact ⟨⟨_, rfl⟩, .inr ⟨_, trivial, HJ3.out⟩⟩
    · obtain rfl : k = 6 := by omega
      clear hlt hk cs
      gi_wp2
      go_end0
      exact ⟨⟨_, rfl⟩, .inl ⟨_, rfl, HJ.out⟩⟩

/-- What a round of the loop keeps. -/
def KpT (n0 : Nat) (V V' : World) : Prop := n0 ≤ V.heap.size → Below n0 V V'
theorem KpT.trans {n0 : Nat} {A B C : World} (h : KpT n0 A B) (k : KpT n0 B C) : KpT n0 A C := fun hA => (h hA).trans (k (Nat.le_trans hA (h hA).size))
theorem loads_ok (n : Nat) (hn : 4 ≤ n) (B B' : Nat) (T : Nat → Int) (s : Int) (n0 : Nat) (hBn : B' < n0) (w : World) (hw : n0 ≤ w.heap.size) (hb : NB B 26 65 T w) (hb' : w.heap[B']? = some (.cells #[.int .u8 s] 5 (0, 0))) :
    SeqOkG Fence.wide n Try.prog 44 #[.pointer (some ⟨B, 0, none⟩), .pointer (some ⟨B', 0, none⟩)] encN (fun pre x _ => PkOk s (lodT T 16) pre x) (KpT n0) (fun xs => xs = pkL s (lodT T 16) 6) (fun _ => True) w :=
  fun l J Jx W m hN hY h0 => loadsIter_in n hn B B' T s n0 hBn l J Jx W (Nat.le_trans hw m.size) (nb_below hb m) (bb hb' m) hN hY h0
def ApL (w : World) (pre : List Int) (W : World) : Prop := (∃ v', Boxed W w.heap.size 38 v' ∧ W.ownsRow w.heap.size 3 1 v' pre.length (pre.map (Value.int .i64)) ∧ True) ∧ Below w.heap.size w W
theorem apL_abide (w : World) (B : Nat) (hB : w.heap.size + 1 ≤ B) : Abide4 B (ApL w) where
  far := fun _ _ _ h k => by
    obtain ⟨⟨v', hv, hr, ht⟩, hb⟩ := h
    exact ⟨⟨v', bb hv k, ownS_below hr k, ht⟩, hb.trans (k.mono hb.size)⟩
  turn := (Abide3.of_own (OwnFrom.and (Own.from (holdsRow_own w.heap.size w.heap.size 38 3 1 (fun pre : List Int => pre.length) (fun pre => pre.map (Value.int .i64)) (fun _ _ => True)) _) (ownFrom_below (Nat.le_refl _) (by omega)))).turn

set_option maxRecDepth 100000 in
set_option maxHeartbeats 4000000 in
theorem appendSeqL_in (n : Nat) (hn : 6 ≤ n) (B B' : Nat) (T : Nat → Int) (s : Int) (w : World) (hb : NB B 26 65 T w) (hb' : w.heap[B']? = some (.cells #[.int .u8 s] 5 (0, 0))) :
    CallsIn Fence.wide n Try.prog 43 #[.slice none 0 0, .func (.func 44) #[] #[.pointer (some ⟨B, 0, none⟩), .pointer (some ⟨B', 0, none⟩)]] w fun e w' =>
      ∃ v', e = .returned v' ∧ w'.ownsRow w.heap.size 3 1 v' (pkL s (lodT T 16) 6).length ((pkL s (lodT T 16) 6).map (Value.int .i64)) ∧ Below w.heap.size w w' := by
  have h1n : 1 ≤ n := by omega
  have hBw : B' < w.heap.size := (Array.getElem?_eq_some_iff.1 hb').1
  obtain ⟨i0, hi, hz0, hz1, hz2⟩ := info_parts Try.infoInt
  refine callsIn_of_wp_marks Try.func43 rfl trivial ?_ rfl
  simp only [Try.ntmps43, List.size_toArray, List.length_cons, List.length_nil, Nat.reduceAdd, Nat.reduceSub, Array.replicate_succ, Array.replicate_zero, List.push_toArray, List.append_toArray, List.nil_append, List.cons_append]
  have L0 : Below w.heap.size w (w.alloc (.cells #[.slice none 0 0] 38)) := (Below.refl _ w).alloc (Nat.le_refl _) _
  have HBT := Lib.hid (bb hb L0)
  have HBS := Lib.hid (bb hb' L0)
  clear hb hb'
  gi_wp2
  have bS := Boxed.new w 38 (.slice none 0 0)
  have hs : (w.alloc (.cells #[.slice none 0 0] 38)).heap.size = w.heap.size + 1 := by simp
  refine range_okF rfl h1n (gf := 44) (lb := #[.pointer (some ⟨B, 0, none⟩), .pointer (some ⟨B', 0, none⟩)]) rfl trivial (enters_of Try.func44 (by kernel_rfl) rfl)
      (loads_ok (n - 1) (by omega) B B' T s w.heap.size hBw _ (by omega) HBT.out HBS.out) (fun _ _ _ _ _ _ h _ _ _ => h) KpT.trans (fun W l o o' h1 h2 h3 h4 _ => belowK_b (by omega) W l o o' h1 h2 h3 h4) (fun _ => rfl)
      (ApL w) (fun _ _ _ => False) (apL_abide w _ (by omega)) (fun _ => Abide4.none _) ⟨⟨_, bS, World.ownsRow_nil _ _ _ _, trivial⟩, L0⟩
      (fun u => { tmps := #[.slice none 0 0, .func (.func 44) #[] #[.pointer (some ⟨B, 0, none⟩), .pointer (some ⟨B', 0, none⟩)], .pointer (some ⟨w.heap.size, 0, none⟩), undef, .slice none 0 0, .int .i64 u, .func (.func 44) #[] #[.pointer (some ⟨B, 0, none⟩), .pointer (some ⟨B', 0, none⟩)], .int .i64 u, undef, undef, undef, undef, undef], defers := [] }) ?assign ?body ?done ?stop
  case assign =>
    intro l x W K hK
    simp only [encN] at hK ⊢
    gi_wp2
    exact hK
  case stop =>
    rintro D c pre W hD _ h
    exact h.elim
  case done =>
    rintro D ys W hD rfl ⟨⟨v', hv, hrow, _⟩, hB'⟩ hK
    have hc := hv.cell
    gi_wp2
    refine ⟨by simp, .inl ⟨_, _, rfl, run_takeDeferred hK, ?_⟩⟩
    have hrow' := ownsRow_putObj hrow (.deferred none) hK rfl
    have hbb := hB'.trans (belowK_b (w := w) (Nat.le_refl _) W D _ (.deferred none) (by simp at hD; omega) hK rfl rfl)
    exact ⟨_, results_tmp rfl _ _ _, v', rfl, hrow', hbb⟩
  case body =>
    rintro l pre x W ⟨⟨v, hv, hrow, _⟩, hB'⟩ ⟨k, hk6, hbk, hpre, hxk⟩
    have hc := hv.cell
    have hpl : pre.length < 6 := by
      rw [hpre]
      exact Nat.lt_of_le_of_lt (pkL_len s (lodT T 16) k) hk6
    clear hpre hbk hxk
    gi_wp2_with (gi_at_builtin; refine wpListIn_append_own _ rfl _ _ 38 rfl w.heap.size 3 i0 (.int .i64 0) 1 8 Try.underlying38 hi hz0 hz1 hz2 rfl (by decide) _ _ _ rfl (hrow.alloc _) ⟨W.heap.size, 0, none⟩ 1 1 [.int .i64 x] rfl rfl (cell_new1 W x _) (by simp [Value.oneCell']) (by unfold maxLen; omega) (by omega) (by have := hB'.size; simp; omega) ?_; intro v2 w2 hown' hgrow _; obtain ⟨g', cap', rfl⟩ := ownsRow_succ hown'; obtain ⟨hv1, hv2, hr2, hk2, hb2⟩ := hv.appended (by decide) hrow hB'.size (Nat.le_refl _) hown' hgrow; have hc1 := hv1.cell; have hf1 := hv1.frozen)
    have hf : (pre ++ [x]).map (Value.int .i64) = pre.map (Value.int .i64) ++ [.int .i64 x] := by simp
    have hlen : (pre ++ [x]).length = pre.length + 1 := by simp
    rw [← hf] at hr2
    exact ⟨hk2.from _, fun _ => hb2, ⟨_, hv2, by rw [hlen]; exact hr2, trivial⟩, hB'.trans hb2⟩

theorem collectL_any (B B' : Nat) (T : Nat → Int) (s : Int) (w : World) (hb : NB B 26 65 T w) (hb' : w.heap[B']? = some (.cells #[.int .u8 s] 5 (0, 0))) :
    Calls Try.prog 35 #[.func (.func 44) #[] #[.pointer (some ⟨B, 0, none⟩), .pointer (some ⟨B', 0, none⟩)]] w fun e w' =>
      ∃ v', e = .returned v' ∧ w'.ownsRow w.heap.size 3 1 v' (pkL s (lodT T 16) 6).length ((pkL s (lodT T 16) 6).map (Value.int .i64)) ∧ Below w.heap.size w w' := by
  have KA := Lib.hid (callsIn_wide.1 (appendSeqL_in 6 (by omega) B B' T s w hb hb'))
  clear hb hb'
  go_enter Try.func35, Try.ntmps35
  go_wp2_with fail
  refine KA.out.mono ?_
  rintro e w1 ⟨v', rfl, O1, m1⟩
  have HO := Lib.hid O1
  have HM := Lib.hid m1
  clear O1 m1
  go_wp2
  go_ret
  exact ⟨v', rfl, HO.out, HM.out⟩

theorem apart_cons (x : Int) (xs : List Int) (h : ∀ y ∈ x :: xs, 0 ≤ y ∧ y ≤ 16) : xs.foldl max x - xs.foldl min x = apart (x :: xs) ∧ 0 ≤ xs.foldl max x ∧ xs.foldl max x ≤ 16 ∧ 0 ≤ xs.foldl min x ∧ xs.foldl min x ≤ 16 := by
  have hx := h x (by simp)
  have h1 := foldMin_in xs (fun y hy => h y (by simp [hy])) x hx
  have h2 := foldMax_in xs (fun y hy => h y (by simp [hy])) x ⟨by omega, hx.2⟩
  refine ⟨?_, by omega, h2.2.1, h1.1, by omega⟩
  unfold apart mostF leastF
  rw [List.foldl_cons, List.foldl_cons, show max (-1) x = x by omega, show min 16 x = x by omega]
  omega

set_option maxRecDepth 100000 in
set_option maxHeartbeats 8000000 in
theorem spread_any (T : Nat → Int) (s : Int) (w : World) : Calls Try.prog 18 #[tabV T, .int .u8 s] w fun e w' => e = .returned (.int .i64 (spr T s)) ∧ Below w.heap.size w w' := by
  have bT := heap_alloc_new w (.cells (numL 65 T).toArray 26)
  have L0 := (Below.refl w.heap.size w).alloc (Nat.le_refl _) (.cells (numL 65 T).toArray 26)
  go_enter Try.func18, Try.ntmps18
  go_upto_region 1 with (fail)
  generalize w.alloc (.cells (numL 65 T).toArray 26) = W0 at *
  have l0 := ld_tab bT
  clear bT
  go_wp2_with fail
  refine (callsIn_wide.1 (loadsOf_in 1 T s W0)).mono ?_
  rintro e w1 ⟨rfl, rfl⟩
  have bT := heap_alloc_new W0 (.cells (numL 65 T).toArray 26)
  have bT := (Below.heap_alloc _ (.cells #[.int .u8 s] 5) _ (by simp)).trans bT
  have bS := heap_alloc_new (W0.alloc (.cells (numL 65 T).toArray 26)) (.cells #[.int .u8 s] 5)
  rw [World.size_alloc] at bS
  have L2 := (L0.alloc L0.size (.cells (numL 65 T).toArray 26)).alloc (by have := L0.size; simp; omega) (.cells #[.int .u8 s] 5)
  have HL2 := Lib.hid L2
  clear l0 L0 L2
  generalize (W0.alloc (.cells (numL 65 T).toArray 26)).alloc (.cells #[.int .u8 s] 5) = V at *
  generalize W0.heap.size = b at *
  have KC := Lib.hid (collectL_any b (b + 1) T s V bT bS)
  clear bT bS
  have HIN := Lib.hid (pkL_in (s := s) (lod16 T) 6)
  have HLN := Lib.hid (pkL_len s (lodT T 16) 6)
  have HSP := Lib.hid (show spr T s = apart (pkL s (lodT T 16) 6) from rfl)
  generalize pkL s (lodT T 16) 6 = xs at *
  go_wp2_with fail
  refine KC.out.mono ?_
  rintro e w2 ⟨v', rfl, O2, m2⟩
  obtain ⟨a1, c1, rfl⟩ := own_slice O2
  have R2 := Row.of_own O2 (show ∀ n ∈ xs, (Lit.int .i64 n).wf = true from fun n hn => wf_i64.2 ⟨by have := HIN.out n hn; omega, by have := HIN.out n hn; omega⟩)
  have HR := Lib.hid R2
  have HM := Lib.hid (HL2.out.trans (m2.mono HL2.out.size))
  clear O2 R2 m2 KC
  cases xs with
  | nil =>
    have HZ := Lib.hid (show (0 : Int) = spr T s by rw [HSP.out]; rfl)
    simp only [List.length_nil]
    go_wp2
    go_ret
    exact ⟨by rw [← HZ.out]; rfl, HM.out⟩
  | cons x xs =>
    have HA := Lib.hid (apart_cons x xs HIN.out)
    have e1 : (((x :: xs).length : Int) == 0) = false := by simp; omega
    have HLL := Lib.hid (show (x :: xs).length ≤ 1000 by have := HLN.out; omega)
    obtain ⟨len, hlen⟩ : ∃ len, (x :: xs).length = len := ⟨_, rfl⟩
    have HLE := Lib.hid (show xs.length + 1 = len by rw [← hlen]; rfl)
    rw [hlen] at e1 HLL ⊢
    clear hlen
    have KX := Lib.hid (slMax_any a1 len c1 x xs HLE.out HLL.out w2 HR.out)
    have KI := Lib.hid (slMin_any a1 len c1 x xs HLE.out HLL.out w2 HR.out)
    generalize xs.foldl max x = mx at *
    generalize xs.foldl min x = mn at *
    have hwr : IntKind.i64.wrap (mx - mn) = mx - mn := IntWalk.i64_in _ (by have := HA.out; omega)
    go_wp2_with fail
    refine KX.out.mono ?_
    rintro e w3 ⟨rfl, rfl⟩
    go_wp2_with fail
    refine KI.out.mono ?_
    rintro e w4 ⟨rfl, rfl⟩
    go_wp2
    go_ret
    exact ⟨by rw [HSP.out, ← HA.out.1]; rfl, HM.out⟩
end Go.Proofs.Ytanbkbppahgbgaa
