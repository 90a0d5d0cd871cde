/- Package hash: swapped, Turn, Unturn, the iterator of states, last, Go. -/
import Derived.Test.YtklmlpnccbmpnaaHsB
namespace Go.Proofs.Ytklmlpnccbmpnaa
open Go.RowKit Go.Shelf
open SumM

attribute [local go_sem] Oper.semAt_some

def swp (c : Int) : Int := c % 16 * 16 + c / 16
theorem swp_trn (c : Int) : trn c = swp ((167 * c + 13) % 256) := rfl
theorem swp_in {c : Int} (h : 0 ≤ c ∧ c ≤ 255) : 0 ≤ swp c ∧ swp c ≤ 255 := by
  unfold swp
  omega

theorem rot_fin : ∀ n : Fin 256, bits .or .u8 ((n.val : Int) * 16 % 256) ((n.val : Int) / 16) = swp (n.val : Int) := by decide +kernel
theorem rot_bits {c : Int} (h : 0 ≤ c ∧ c ≤ 255) : bits .or .u8 (c * 16 % 256) (c / 16) = swp c := by
  have h1 := rot_fin ⟨c.toNat, by omega⟩
  rwa [show ((⟨c.toNat, by omega⟩ : Fin 256).val : Int) = c by simp; omega] at h1
theorem bkt_fin2 : ∀ n : Fin 256, wrap64 (bits .xor .u8 ((n.val : Int) / 16) ((n.val : Int) % 16)) = bkt (n.val : Int) := by decide +kernel
theorem bkt_bits {c : Int} (h : 0 ≤ c ∧ c ≤ 255) : wrap64 (bits .xor .u8 (c / 16) (c % 16)) = bkt c := by
  have h1 := bkt_fin2 ⟨c.toNat, by omega⟩
  rwa [show ((⟨c.toNat, by omega⟩ : Fin 256).val : Int) = c by simp; omega] at h1

set_option maxRecDepth 100000 in
theorem hrot_any (c : Int) (h : 0 ≤ c ∧ c ≤ 255) (w : World) : Calls Try.prog 62 #[.int .u8 c, .int .i64 4] w fun e w' => e = .returned (.int .u8 (swp c)) ∧ w = w' := by
  have hb : bits .and .u64 4 7 = 4 := by decide
  go_enter Try.func62, Try.ntmps62
  go_wp2
  go_ret
  exact ⟨by rw [← rot_bits h]; rfl, rfl⟩

set_option maxRecDepth 100000 in
theorem hswapped_any (c : Int) (h : 0 ≤ c ∧ c ≤ 255) (w : World) : Calls Try.prog 38 #[.int .u8 c] w fun e w' => e = .returned (.int .u8 (swp c)) ∧ w = w' := by
  go_enter Try.func38, Try.ntmps38
  go_wp2_with (go_at_call 62; refine (hrot_any _ h _).mono ?_; rintro e w' ⟨rfl, rfl⟩)
  go_ret
  exact ⟨rfl, rfl⟩

set_option maxRecDepth 100000 in
theorem hTurn_is (c : Int) (_h : 0 ≤ c ∧ c ≤ 255) (w : World) : Calls Try.prog 15 #[.int .u8 c] w fun e w' => e = .returned (.int .u8 (trn c)) ∧ w = w' := by
  go_enter Try.func15, Try.ntmps15
  go_wp2_with (go_at_call 38; refine (hswapped_any _ (by omega) _).mono ?_; rintro e w' ⟨rfl, rfl⟩)
  go_ret
  exact ⟨rfl, rfl⟩
theorem hTurn_any (c : Int) (h : 0 ≤ c ∧ c ≤ 255) (w : World) : Calls Try.prog 15 #[.int .u8 c] w fun e w' => e = .returned (.int .u8 (trn c)) ∧ Below w.heap.size w w' :=
  (hTurn_is c h w).mono fun _ _ ⟨h1, h2⟩ => ⟨h1, h2 ▸ Below.refl _ _⟩

set_option maxRecDepth 100000 in
theorem hUnturn_is (c : Int) (h : 0 ≤ c ∧ c ≤ 255) (w : World) : Calls Try.prog 17 #[.int .u8 c] w fun e w' => e = .returned (.int .u8 (unt c)) ∧ w = w' := by
  have hs := swp_in h
  have HU := Lib.hid (show unt c = 23 * ((swp c - 13) % 256) % 256 by unfold unt swp; omega)
  go_enter Try.func17, Try.ntmps17
  go_wp2_with (go_at_call 38; refine (hswapped_any _ h _).mono ?_; rintro e w' ⟨rfl, rfl⟩)
  go_ret
  refine ⟨?_, rfl⟩
  rw [HU.out]
  first | rfl | (congr 2; omega) | trace_state

theorem hUnturn_any (c : Int) (h : 0 ≤ c ∧ c ≤ 255) (w : World) : Calls Try.prog 17 #[.int .u8 c] w fun e w' => e = .returned (.int .u8 (unt c)) ∧ Below w.heap.size w w' :=
  (hUnturn_is c h w).mono fun _ _ ⟨h1, h2⟩ => ⟨h1, h2 ▸ Below.refl _ _⟩

set_option maxRecDepth 100000 in
theorem hbucket_any (s : Int) (h : 0 ≤ s ∧ s ≤ 255) (w : World) : Calls Try.prog 34 #[.int .u8 s] w fun e w' => e = .returned (.int .i64 (bkt s)) ∧ w = w' := by
  go_enter Try.func34, Try.ntmps34
  go_wp2
  go_ret
  exact ⟨by rw [← bkt_bits h]; rfl, rfl⟩

theorem hstates_in (n : Nat) (g : Fn) (la lb : Array Value) (s : Int) (a : Option Addr) (len cap : Nat) (w : World) :
    CallsIn Fence.wide n Try.prog 59 #[.func g la lb, .int .u8 s, .slice a len cap] w fun e w' => e = .returned (.func (.func 78) #[] #[.pointer (some ⟨w.heap.size + 1, 0, none⟩), .pointer (some ⟨w.heap.size + 2, 0, none⟩), .pointer (some ⟨w.heap.size, 0, none⟩)]) ∧ w' = ((w.alloc (.cells #[.func g la lb] 35)).alloc (.cells #[.int .u8 s] 5)).alloc (.cells #[.slice a len cap] 22) := by
  refine callsIn_of_wp Try.func59 rfl trivial ?_ rfl
  simp only [Try.ntmps59, List.size_toArray, List.length_cons, List.length_nil, Nat.reduceAdd, Nat.reduceSub, Array.replicate_succ, Array.replicate_zero, List.push_toArray, List.append_toArray, List.nil_append, List.cons_append]
  gi_wp2
  go_ret
  exact ⟨rfl, rfl⟩

/-- A byte; the states behind one, two, .. bytes. -/
abbrev S8 := { x : Int // 0 ≤ x ∧ x ≤ 255 }
def st8 (s : S8) (bs : List Int) (j : Nat) : S8 := ⟨goS s.1 (bs.take (j + 1)), goS_in _ s.2⟩
/-- What turns bytes, as a function's value: whatever happens from n₀ on. -/
def TurnOk (n n₀ : Nat) (w : World) (g : FuncId) (la : Array Value) : Prop := ∀ (c : Int), 0 ≤ c ∧ c ≤ 255 → ∀ W, Below n₀ w W → CallsIn Fence.wide n Try.prog g (la.push (.int .u8 c)) W fun e w' => e = .returned (.int .u8 (trn c)) ∧ W = w'

set_option maxRecDepth 100000 in
set_option maxHeartbeats 2000000 in
theorem hiter_in (n : Nat) (hn : 1 ≤ n) (l Bt Bs Bb n₀ : Nat) (g : FuncId) (la : Array Value) (eg : ∀ args w, (callFunc g args).run Try.prog w = .ok (.enter g args) w) (s : S8) (a : Option Addr) (len cap : Nat) (bs : List Int) (hl : bs.length = len) (hs : len ≤ 1000000) (J Jx : List S8 → World → Prop)
    (hY : ∀ pre x W, J pre W → pre.length < len → YieldAt Fence.wide (n - 1) Try.prog l #[.int .u8 x.1] W fun e W' =>
      (e = .returned (.bool true) ∧ J (pre ++ [x]) W' ∧ Keep n₀ [Bt, Bs, Bb] W W') ∨ (e = .returned (.bool false) ∧ Jx (pre ++ [x]) W'))
    (W : World) (hT : TurnOk (n - 1) n₀ W g la) (hR : Row .u8 n₀ W a bs) (bT : Boxed W Bt 35 (.func (.func g) la #[])) (bS : Boxed W Bs 5 (.int .u8 s.1)) (bB : Boxed W Bb 22 (.slice a len cap)) (h0 : J [] W) :
    CallsIn Fence.wide n Try.prog 78 #[.func (.yield l) #[] #[], .pointer (some ⟨Bs, 0, none⟩), .pointer (some ⟨Bb, 0, none⟩), .pointer (some ⟨Bt, 0, none⟩)] W fun e W' => (∃ v, e = .returned v) ∧
      ((∃ ys, ys = uptoA (st8 s bs) len ∧ J ys W') ∨ (∃ pre, (∃ j, j ≤ len ∧ pre = uptoA (st8 s bs) j) ∧ Jx pre W')) := by
  refine callsIn_of_wp Try.func78 rfl trivial ?_ rfl
  simp only [Try.ntmps78, List.size_toArray, List.length_cons, List.length_nil, Nat.reduceAdd, Nat.reduceSub, Array.replicate_succ, Array.replicate_zero, List.push_toArray, List.append_toArray, List.nil_append, List.cons_append]
  have hin := row_in hR
  have hcs := bS.cell
  have hcb := bB.cell
  have HL := Lib.hid hl
  clear hl
  gi_wp2
  gi_loopw [5, 11] (fun x i wr => ∃ j : Nat, j ≤ len ∧ i = .int .i64 (j : Nat) ∧ x = .int .u8 (goS s.1 (bs.take j)) ∧ J (uptoA (st8 s bs) j) wr ∧ Keep n₀ [Bt, Bs, Bb] W wr)
    (fun _ i _ => len - (intOf i).toNat)
  case atStart => exact ⟨0, by omega, rfl, rfl, h0, Keep.refl _ _ _⟩
  case round =>
    obtain ⟨j, hj, rfl, rfl, hJs, hnx⟩ := hrel
    by_cases hlt : j < len
    · obtain ⟨fn, tmps, assign, body, hy, hRd⟩ := hY _ (st8 s bs j) wr hJs (by rw [uptoA_length]; omega)
      have FIN : Hid (∀ (e : Ending) (W3 : World), ((e = .returned (.bool true) ∧ J (uptoA (st8 s bs) j ++ [st8 s bs j]) W3 ∧ Keep n₀ [Bt, Bs, Bb] wr W3) ∨ (e = .returned (.bool false) ∧ Jx (uptoA (st8 s bs) j ++ [st8 s bs j]) W3)) →
          (e = .returned (.bool true) ∧ Hid (J (uptoA (st8 s bs) (j + 1)) W3) ∧ Hid (Keep n₀ [Bt, Bs, Bb] W W3)) ∨ (e = .returned (.bool false) ∧ Hid (Jx (uptoA (st8 s bs) (j + 1)) W3))) := Lib.hid (by
        intro e W3 h
        rw [← uptoA_succ] at h
        exact h.imp (fun h => ⟨h.1, Lib.hid h.2.1, Lib.hid (keep_t hnx h.2.2)⟩) (fun h => ⟨h.1, Lib.hid h.2⟩))
      have hct := (hnx.boxed (by simp) bT).cell
      obtain ⟨b, off, rfl, hb, hc⟩ := (hR.below hnx.1).2 (by rw [HL.out]; omega)
      have hcx := hc j (by rw [HL.out]; omega)
      have hx := getD_in hin (by decide) j
      have hg := goS_in (bs.take j) s.2
      have hs1 := goS_succ bs s.1 j (by rw [HL.out]; exact hlt)
      have K := Lib.hid (hT _ (xr_in hg hx) wr hnx.1)
      have HV := Lib.hid (show (st8 s bs j).1 = trn (xr (goS s.1 (bs.take j)) (bs[j]?.getD 0)) from hs1)
      rw [HV.out] at hy
      have HS := Lib.hid hs1
      generalize goS s.1 (bs.take j) = q at *
      clear hcs hcb hJs hY hR bT bS bB hc hs1 h0 hT
      gi_wp2
      refine ⟨trivial, K.out.mono ?_⟩
      rintro e w' ⟨rfl, rfl⟩
      gi_wp2
      refine hRd.mono ?_
      intro e W3 h
      rcases FIN.out e W3 h with ⟨rfl, hJ3, hk3⟩ | ⟨rfl, hJx3⟩
      · gi_wp2
        go_roundw
        case rel => exact ⟨j + 1, by omega, by go_num, by rw [HS.out], hJ3.out, hk3.out⟩
        case measure => simp [intOf]; omega
      · gi_wp2
        refine bodyPost_ret (results_none rfl _ _ _) rfl ?_
        exact ⟨⟨_, rfl⟩, .inr ⟨_, ⟨j + 1, by omega, rfl⟩, hJx3.out⟩⟩
    · obtain rfl : j = len := by omega
      gi_wp2
      go_end0
      exact ⟨⟨_, rfl⟩, .inl ⟨_, rfl, hJs⟩⟩

/-- The last one of some, or else s. -/
def lastOr (s : Int) (l : List S8) : Int := (l.getLast?.map (·.1)).getD s
theorem lastOr_snoc (s : Int) (l : List S8) (x : S8) : lastOr s (l ++ [x]) = x.1 := by simp [lastOr]
theorem lastOr_all (s : S8) (bs : List Int) : ∀ k, k = bs.length → lastOr s.1 (uptoA (st8 s bs) k) = goS s.1 bs
  | 0, h => by
    obtain rfl : bs = [] := List.eq_nil_of_length_eq_zero h.symm
    rfl
  | k + 1, h => by
    rw [uptoA_succ, lastOr_snoc]
    show goS s.1 (bs.take (k + 1)) = _
    rw [h, List.take_length]

theorem states_stops (n : Nat) (hn : 1 ≤ n) (Bt Bs Bb n₀ : Nat) (g : FuncId) (la : Array Value) (eg : ∀ args w, (callFunc g args).run Try.prog w = .ok (.enter g args) w) (s : S8) (a : Option Addr) (len cap : Nat) (bs : List Int) (hl : bs.length = len) (hs : len ≤ 1000000) (w : World)
    (hT : TurnOk (n - 1) n₀ w g la) (hR : Row .u8 n₀ w a bs) (hz : n₀ ≤ w.heap.size) (bT : Boxed w Bt 35 (.func (.func g) la #[])) (bS : Boxed w Bs 5 (.int .u8 s.1)) (bB : Boxed w Bb 22 (.slice a len cap)) :
    SeqStopsK Fence.wide n Try.prog 78 #[.pointer (some ⟨Bs, 0, none⟩), .pointer (some ⟨Bb, 0, none⟩), .pointer (some ⟨Bt, 0, none⟩)] (fun x : S8 => #[Value.int .u8 x.1]) (Keep n₀ [Bt, Bs, Bb]) (fun ys => ys = uptoA (st8 s bs) len)
      (fun pre => ∃ j, j ≤ len ∧ pre = uptoA (st8 s bs) j) len w := fun l J Jx W hW _ _ hY h0 =>
  hiter_in n hn l Bt Bs Bb n₀ g la eg s a len cap bs hl hs J Jx hY W (fun c hc W' h => hT c hc W' ((hW.mono hz).trans h)) (hR.below (hW.mono hz)) ((hW.block Bt bT.lt).trans bT) ((hW.block Bs bS.lt).trans bS) ((hW.block Bb bB.lt).trans bB) h0

set_option maxRecDepth 100000 in
set_option maxHeartbeats 2000000 in
theorem hlast_in (n : Nat) (hn : 3 ≤ n) (g : FuncId) (la : Array Value) (eg : ∀ args w, (callFunc g args).run Try.prog w = .ok (.enter g args) w) (s : S8) (a : Option Addr) (len cap : Nat) (bs : List Int) (hl : bs.length = len) (hs : len ≤ 1000000) (w : World)
    (hT : TurnOk (n - 2) w.heap.size w g la) (hR : Row .u8 w.heap.size w a bs) :
    CallsIn Fence.wide n Try.prog 35 #[.func (.func g) la #[], .int .u8 s.1, .slice a len cap] w fun e w' => e = .returned (.int .u8 (goS s.1 bs)) ∧ Below w.heap.size w w' := by
  have h1 : 1 ≤ n := by omega
  have HL := Lib.hid hl
  refine callsIn_of_wp_marks Try.func35 rfl trivial ?_ rfl
  simp only [Try.ntmps35, List.size_toArray, List.length_cons, List.length_nil, Nat.reduceAdd, Nat.reduceSub, Array.replicate_succ, Array.replicate_zero, List.push_toArray, List.append_toArray, List.nil_append, List.cons_append]
  have b0 := Boxed.new w 5 (.int .u8 s.1)
  have hc0 := b0.cell
  have L0 : Below w.heap.size w (w.alloc (.cells #[.int .u8 s.1] 5)) := (Below.refl _ w).alloc (Nat.le_refl _) _
  gi_wp2_with (refine ⟨trivial, ?_⟩; gi_at_call 59; refine (hstates_in _ _ _ _ _ _ _ _ _).mono ?_; rintro e w' ⟨rfl, rfl⟩)
  have bT := ((Boxed.new (w.alloc (.cells #[.int .u8 s.1] 5)) 35 (.func (.func g) la #[])).alloc (.cells #[.int .u8 s.1] 5)).alloc (.cells #[.slice a len cap] 22)
  have bS := (Boxed.new ((w.alloc (.cells #[.int .u8 s.1] 5)).alloc (.cells #[.func (.func g) la #[]] 35)) 5 (.int .u8 s.1)).alloc (.cells #[.slice a len cap] 22)
  have bB := Boxed.new (((w.alloc (.cells #[.int .u8 s.1] 5)).alloc (.cells #[.func (.func g) la #[]] 35)).alloc (.cells #[.int .u8 s.1] 5)) 22 (.slice a len cap)
  have bX := ((b0.alloc (.cells #[.func (.func g) la #[]] 35)).alloc (.cells #[.int .u8 s.1] 5)).alloc (.cells #[.slice a len cap] 22)
  have LA := ((L0.alloc (by simp) (.cells #[.func (.func g) la #[]] 35)).alloc (by simp; omega) (.cells #[.int .u8 s.1] 5)).alloc (by simp; omega) (.cells #[.slice a len cap] 22)
  simp only [World.size_alloc] at bT bS bB
  have hz : ((((w.alloc (.cells #[.int .u8 s.1] 5)).alloc (.cells #[.func (.func g) la #[]] 35)).alloc (.cells #[.int .u8 s.1] 5)).alloc (.cells #[.slice a len cap] 22)).heap.size = w.heap.size + 4 := by simp
  have T2 : TurnOk (n - 1 - 1) w.heap.size ((((w.alloc (.cells #[.int .u8 s.1] 5)).alloc (.cells #[.func (.func g) la #[]] 35)).alloc (.cells #[.int .u8 s.1] 5)).alloc (.cells #[.slice a len cap] 22)) g la := fun c hc W' h => hT c hc W' (LA.trans h)
  have R2 := hR.below LA
  generalize (((w.alloc (.cells #[.int .u8 s.1] 5)).alloc (.cells #[.func (.func g) la #[]] 35)).alloc (.cells #[.int .u8 s.1] 5)).alloc (.cells #[.slice a len cap] 22) = W0 at *
  refine wpIn_rangeFunc_ownG rfl h1 (gf := 78) (lb := #[.pointer (some ⟨w.heap.size + 1 + 1, 0, none⟩), .pointer (some ⟨w.heap.size + 1 + 2, 0, none⟩), .pointer (some ⟨w.heap.size + 1, 0, none⟩)]) rfl trivial (enters_of Try.func78 (by kernel_rfl) rfl)
    (states_stops (n - 1) (by omega) (w.heap.size + 1) (w.heap.size + 1 + 1) (w.heap.size + 1 + 2) w.heap.size g la eg s a len cap bs HL.out hs W0 T2 R2 (by omega) bT bS bB) keep_t (keep_b (by omega)) (Below.refl _ _) (fun _ => rfl)
    (fun pre W => (W.cell? ⟨w.heap.size, 0, none⟩ = some (.int .u8 (lastOr s.1 pre)) ∧ W.frozen? ⟨w.heap.size, 0, none⟩ = false) ∧ Below w.heap.size w W)
    (fun _ _ _ => False)
    (OwnFrom.and (Own.from (fun _ A B row hs hg hr => ⟨cell_kept hs.1 hg hr, (frozen_kept hs.1 hg hr).trans hs.2⟩) _) (ownFrom_below (Nat.le_refl _) (by omega)))
    (fun _ _ _ _ _ hs _ _ => hs)
    ⟨⟨bX.cell, bX.frozen⟩, LA⟩
    (fun x => { tmps := #[.func (.func g) la #[], .int .u8 s.1, .slice a len cap, undef, .pointer (some ⟨w.heap.size, 0, none⟩), undef, .int .u8 0, .int .u8 x.1, .func (.func g) la #[], .int .u8 s.1, .slice a len cap, .func (.func 78) #[] #[.pointer (some ⟨w.heap.size + 1 + 1, 0, none⟩), .pointer (some ⟨w.heap.size + 1 + 2, 0, none⟩), .pointer (some ⟨w.heap.size + 1, 0, none⟩)], .int .u8 x.1, undef, undef], defers := [] }) ?assign ?body ?done ?stop
  case assign =>
    intro l x W K hK
    gi_wp2
    exact hK
  case body =>
    rintro l pre x W ⟨⟨hc, hf⟩, hB⟩ hlt
    gi_wp2
    exact ⟨(KeepsOthers.setCell _ _ _).from _, Keep.setCell W (p := ⟨w.heap.size, 0, none⟩) (Nat.le_refl _) (by simp; omega) _, ⟨by rw [lastOr_snoc]; exact World.cell?_setCell_same' _ _ _ (by rw [hc]; rfl), by rw [World.frozen?_setCell]; exact hf⟩, hB.setCell (p := ⟨w.heap.size, 0, none⟩) (Nat.le_refl _) _⟩
  case done =>
    rintro D ys W hD hys ⟨⟨hc, _⟩, hB⟩ hK
    have HY := Lib.hid hys
    clear hys
    gi_wp2
    refine ⟨by simp, .inl ⟨_, _, rfl, run_takeDeferred hK, ?_⟩⟩
    refine ⟨_, results_tmp rfl _ _ _, ?_, hB.trans (belowK_b (w := w) (Nat.le_refl _) W D _ _ (by omega) hK rfl rfl)⟩
    rw [HY.out, lastOr_all s bs len HL.out.symm]
    rfl
  case stop =>
    rintro D c pre W _ _ h _
    exact h.elim

/-- A table's or hash.Turn's own value as the one that turns. -/
theorem turnOk_turn (n n₀ : Nat) (w : World) : TurnOk n n₀ w 15 #[] := fun c hc W _ => callsIn_wide.2 (hTurn_is c hc W)

theorem Row.real {k : IntKind} {B : Nat} {w : World} {a : Option Addr} {zs : List Int} (h : Row k B w a zs) : Row k w.heap.size w a zs := by
  refine ⟨h.1, fun hz => ?_⟩
  obtain ⟨b, off, ha, _, hc⟩ := h.2 hz
  refine ⟨b, off, ha, ?_, hc⟩
  have h0 := hc 0 hz
  rcases Nat.lt_or_ge b w.heap.size with h1 | h1
  · exact h1
  · rw [World.cell?, Array.getElem?_eq_none h1] at h0
    cases h0

theorem hGo_any (s : Int) (hs : 0 ≤ s ∧ s ≤ 255) (a : Option Addr) (len cap B : Nat) (bs : List Int) (w : World) (h : Row .u8 B w a bs) (hl : bs.length = len) (hm : len ≤ 1000000) : Calls Try.prog 19 #[.int .u8 s, .slice a len cap] w fun e w' => e = .returned (.int .u8 (goS s bs)) ∧ Below w.heap.size w w' := by
  have K := Lib.hid (callsIn_wide.1 (hlast_in 3 (by omega) 15 #[] (enters_of Try.func15 (by kernel_rfl) rfl) ⟨s, hs⟩ a len cap bs hl hm w (turnOk_turn _ _ _) h.real))
  go_enter Try.func19, Try.ntmps19
  go_wp2_with (fail)
  refine K.out.mono ?_
  rintro e w' ⟨rfl, m⟩
  go_wp2
  go_ret
  exact ⟨rfl, m⟩
end Go.Proofs.Ytklmlpnccbmpnaa
