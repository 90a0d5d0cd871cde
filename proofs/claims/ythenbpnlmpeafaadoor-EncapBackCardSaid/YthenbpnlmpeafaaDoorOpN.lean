/- Package option: numbersIn: the numbers that bytes are. -/
import Derived.Test.YthenbpnlmpeafaaDoorOpM
namespace Go.Proofs.YthenbpnlmpeafaaDoor
open Go.RowKit Go.Shelf
open SumM

attribute [local go_sem] Oper.semAt_some

def noff (k : Nat) : Nat := match k with | 0 => 0 | 1 => 1 | 2 => 2 | 3 => 3 | 4 => 4 | 5 => 8 | _ => 14
def nw (k : Nat) : Nat := match k with | 0 => 1 | 1 => 1 | 2 => 1 | 3 => 1 | 4 => 4 | _ => 6
theorem nwd_nw (k : Nat) : nwd k = (nw k : Int) := by
  match k with
  | 0 => rfl
  | 1 => rfl
  | 2 => rfl
  | 3 => rfl
  | 4 => rfl
  | _ + 5 => rfl
theorem noff_succ : ∀ k : Nat, k < 6 → noff (k + 1) = noff k + nw k ∧ noff k + nw k ≤ 14 ∧ 1 ≤ nw k ∧ nw k ≤ 6
  | 0, _ => by decide
  | 1, _ => by decide
  | 2, _ => by decide
  | 3, _ => by decide
  | 4, _ => by decide
  | 5, _ => by decide
/-- A number's bytes; what they are; what it is then. -/
def nrow (bs : List Int) (k : Nat) : List Int := (bs.drop (noff k)).take (nw k)
def nval (bs : List Int) (k : Nat) : Int := if nlo k = -1 ∧ numOf (nrow bs k) = 255 then -1 else numOf (nrow bs k)
/-- The numbers filled in so far. -/
def nfill (bs : List Int) (k : Nat) (j : Nat) : Int := if j < k then nval bs j else 0
def upd (f : Nat → Int) (x : Nat) (v : Int) (j : Nat) : Int := if j = x then v else f j
theorem upd_cells (f : Nat → Int) (v : Int) : ∀ x : Nat, x < 6 → (#[.int .i64 (f 0), .int .i64 (f 1), .int .i64 (f 2), .int .i64 (f 3), .int .i64 (f 4), .int .i64 (f 5)] : Array Value).setIfInBounds x (.int .i64 v) = #[.int .i64 (upd f x v 0), .int .i64 (upd f x v 1), .int .i64 (upd f x v 2), .int .i64 (upd f x v 3), .int .i64 (upd f x v 4), .int .i64 (upd f x v 5)]
  | 0, _ => rfl
  | 1, _ => rfl
  | 2, _ => rfl
  | 3, _ => rfl
  | 4, _ => rfl
  | 5, _ => rfl
theorem upd_upd (f : Nat → Int) (x : Nat) (v v' : Int) : upd (upd f x v) x v' = upd f x v' := by
  funext j
  unfold upd
  split <;> rfl
theorem upd_fill (bs : List Int) (x : Nat) : upd (nfill bs x) x (nval bs x) = nfill bs (x + 1) := by
  funext j
  unfold upd nfill
  by_cases h : j = x
  · subst h
    simp
  · rw [if_neg h]
    by_cases h2 : j < x
    · rw [if_pos h2, if_pos (by omega)]
    · rw [if_neg h2, if_neg (by omega)]
theorem upd_zero (bs : List Int) (x : Nat) : upd (nfill bs x) x 0 = nfill bs x := by
  funext j
  unfold upd nfill
  by_cases h : j = x
  · subst h
    simp
  · rw [if_neg h]
/-- What lies in memory, k numbers being filled in, f being what the numbers are. -/
structure NiBase (bs : List Int) (w : World) (k : Nat) (f : Nat → Int) (W : World) : Prop where
  lo : Below w.heap.size w W
  sz : w.heap.size + 4 ≤ W.heap.size
  bx : ∃ a c, W.heap[w.heap.size]? = some (.cells #[.slice a (14 - noff k) c] 27 (0, 0)) ∧ Row .u8 w.heap.size W a (bs.drop (noff k)) ∧ 14 - noff k ≤ c ∧ c ≤ 9223372036854775807
  ro : W.heap[w.heap.size + 1]? = some (.cells #[.int .i64 0, .int .i64 0, .int .i64 0, .int .i64 0, .int .i64 0, .int .i64 0] 98 (0, 0))
  nu : W.heap[w.heap.size + 2]? = some (.cells #[.int .i64 (f 0), .int .i64 (f 1), .int .i64 (f 2), .int .i64 (f 3), .int .i64 (f 4), .int .i64 (f 5)] 98 (0, 0))
theorem NiBase.new {bs : List Int} {w W : World} {k : Nat} {f : Nat → Int} (h : NiBase bs w k f W) (o : Obj) : NiBase bs w k f (W.alloc o) :=
  ⟨h.lo.alloc h.lo.size o, by rw [World.size_alloc]; have := h.sz; omega, let ⟨a, c, h1, h2, h3⟩ := h.bx; ⟨a, c, blkN h1 o, h2.below ((Below.refl _ _).alloc h.lo.size o), h3⟩, blkN h.ro o, blkN h.nu o⟩
theorem NiBase.turn {bs : List Int} {w W : World} {k : Nat} {f : Nat → Int} (h : NiBase bs w k f W) {l : Nat} {o : Obj} (o' : Obj) (hB : w.heap.size + 4 ≤ l) (hl : W.heap[l]? = some o) (hc : o.isCells = false) : NiBase bs w k f (W.putObj l o') :=
  have hb : Below w.heap.size W (W.putObj l o') := ⟨rfl, rfl, rfl, by simp [World.putObj], fun k hk => World.putObj_heap_other (by omega)⟩
  ⟨h.lo.trans hb, by have := h.sz; simpa [World.putObj] using this, let ⟨a, c, h1, h2, h3⟩ := h.bx; ⟨a, c, blkT h1 hl hc o', h2.below hb, h3⟩, blkT h.ro hl hc o', blkT h.nu hl hc o'⟩
theorem NiBase.drewN {bs : List Int} {w W : World} {k : Nat} {f : Nat → Int} (h : NiBase bs w k f W) (m : Nat) : NiBase bs w k f (W.drewN m) :=
  ⟨⟨h.lo.os, h.lo.tape, h.lo.output, h.lo.size, h.lo.block⟩, h.sz, h.bx, h.ro, h.nu⟩
/-- A number is set. -/
theorem NiBase.set {bs : List Int} {w W : World} {k : Nat} {f : Nat → Int} (h : NiBase bs w k f W) (x : Nat) (hx : x < 6) (v : Int) : NiBase bs w k (upd f x v) (W.setCell ⟨w.heap.size + 2, x, none⟩ (.int .i64 v)) := by
  have hb : Below w.heap.size W (W.setCell ⟨w.heap.size + 2, x, none⟩ (.int .i64 v)) := (Below.refl _ _).setCell (p := ⟨w.heap.size + 2, x, none⟩) (by simp) _
  obtain ⟨a, c, h1, h2, h3⟩ := h.bx
  refine ⟨h.lo.trans hb, by rw [World.size_setCell]; exact h.sz, ⟨a, c, (Below.heap_setCell W ⟨w.heap.size + 2, x, none⟩ _ _ (by simp)).trans h1, h2.below hb, h3⟩, (Below.heap_setCell W ⟨w.heap.size + 2, x, none⟩ _ _ (by simp)).trans h.ro, ?_⟩
  have := heap_setCell_same W (w.heap.size + 2) x _ _ (.int .i64 v) h.nu
  rw [upd_cells f v x hx] at this
  exact this
/-- The next bytes. -/
theorem NiBase.next {bs : List Int} {w W : World} {k k' : Nat} {f : Nat → Int} (h : NiBase bs w k f W) (a : Option Addr) (c : Nat) (hr : Row .u8 w.heap.size W a (bs.drop (noff k'))) (hc : 14 - noff k' ≤ c ∧ c ≤ 9223372036854775807) : NiBase bs w k' f (W.setCell ⟨w.heap.size, 0, none⟩ (.slice a (14 - noff k') c)) := by
  have hb : Below w.heap.size W (W.setCell ⟨w.heap.size, 0, none⟩ (.slice a (14 - noff k') c)) := (Below.refl _ _).setCell (p := ⟨w.heap.size, 0, none⟩) (Nat.le_refl _) _
  obtain ⟨a0, c0, h1, h2, h3⟩ := h.bx
  have h5 := heap_setCell_same W w.heap.size 0 _ _ (.slice a (14 - noff k') c) h1
  exact ⟨h.lo.trans hb, by rw [World.size_setCell]; exact h.sz, ⟨a, c, by simpa using h5, hr.below hb, hc⟩, (Below.heap_setCell W ⟨w.heap.size, 0, none⟩ _ _ (by simp)).trans h.ro, (Below.heap_setCell W ⟨w.heap.size, 0, none⟩ _ _ (by simp)).trans h.nu⟩
def NiInv (bs : List Int) (w : World) (pre : List Nat) (W : World) : Prop := NiBase bs w pre.length (nfill bs pre.length) W
theorem niInv_abide (bs : List Int) (w : World) (B : Nat) (hB : w.heap.size + 4 ≤ B) : Abide3 B (NiInv bs w) where
  new := fun _ _ o h => NiBase.new h o
  turn := fun _ _ _ _ o' h hl ho hc => NiBase.turn h o' (by omega) ho hc
theorem Tryd.infoNum : (Tryd.prog.info? 98).map (·.size) = some 6 := by kernel_rfl
theorem or_byte (v c : Int) (hv : 0 ≤ v) (hv' : v < 1099511627776) (hc : 0 ≤ c ∧ c ≤ 255) : bits .or .i64 (v * 256) c = v * 256 + c := by
  obtain ⟨A, rfl⟩ := Int.eq_ofNat_of_zero_le hv
  obtain ⟨C, rfl⟩ := Int.eq_ofNat_of_zero_le hc.1
  have e1 : (A : Int) * 256 = ((A * 256 : Nat) : Int) := by omega
  have e2 : A * 256 ||| C = A * 256 + C := by
    have := Nat.shiftLeft_add_eq_or_of_lt (i := 8) (b := C) (by omega) A
    rw [Nat.shiftLeft_eq] at this
    exact this.symm
  rw [e1]
  show IntKind.i64.wrap ((BitVec.ofInt 64 ((A * 256 : Nat) : Int) ||| BitVec.ofInt 64 (C : Int)).toNat : Int) = _
  rw [BitVec.toNat_or, ofInt_u64 _ (by omega), ofInt_u64 _ (by omega), e2, IntWalk.i64_in _ (by omega)]
  omega

set_option maxRecDepth 100000 in
set_option maxHeartbeats 8000000 in
theorem onumbersIn_in (n : Nat) (hn : 4 ≤ n) (a : Option Addr) (len cap : Nat) (bs : List Int) (hl : bs.length = len) (h14 : len = 14) (hlc : len ≤ cap) (hc : cap ≤ 9223372036854775807) (w : World) (hR : Row .u8 w.heap.size w a bs) :
    CallsIn Fence.wide n Tryd.prog 73 #[.slice a len cap] w fun e w' => e = .returned (.agg #[.int .i64 (nval bs 0), .int .i64 (nval bs 1), .int .i64 (nval bs 2), .int .i64 (nval bs 3), .int .i64 (nval bs 4), .int .i64 (nval bs 5)]) ∧ Below w.heap.size w w' := by
  have h1n : 1 ≤ n := by omega
  have HI := Lib.hid (row_in hR)
  have HL := Lib.hid (And.intro hl (And.intro h14 (And.intro hlc hc)))
  refine callsIn_of_wp_marks Tryd.func73 rfl trivial ?_ rfl
  simp only [Tryd.ntmps73, List.size_toArray, List.length_cons, List.length_nil, Nat.reduceAdd, Nat.reduceSub, Array.replicate_succ, Array.replicate_zero, List.push_toArray, List.append_toArray, List.nil_append, List.cons_append]
  have hb0 : Below w.heap.size w ((((w.alloc (.cells #[.slice a len cap] 27)).alloc (.cells #[.int .i64 0, .int .i64 0, .int .i64 0, .int .i64 0, .int .i64 0, .int .i64 0] 98)).alloc (.cells #[.int .i64 0, .int .i64 0, .int .i64 0, .int .i64 0, .int .i64 0, .int .i64 0] 98)).alloc (.cells #[.pointer (some ⟨w.heap.size + 2, 0, none⟩)] 111)) := ((((Below.refl _ w).alloc (Nat.le_refl _) _).alloc (by simp) _).alloc (by simp; omega) _).alloc (by simp; omega) _
  have B0 : NiBase bs w 0 (nfill bs 0) ((((w.alloc (.cells #[.slice a len cap] 27)).alloc (.cells #[.int .i64 0, .int .i64 0, .int .i64 0, .int .i64 0, .int .i64 0, .int .i64 0] 98)).alloc (.cells #[.int .i64 0, .int .i64 0, .int .i64 0, .int .i64 0, .int .i64 0, .int .i64 0] 98)).alloc (.cells #[.pointer (some ⟨w.heap.size + 2, 0, none⟩)] 111)) :=
    ⟨hb0, by simp, ⟨a, cap, by rw [show 14 - noff 0 = len by rw [h14]; rfl]; exact blkN (blkN (blkN (newN w _ _ rfl) _) _) _, hR.below hb0, by simp only [noff]; omega⟩, blkN (blkN (newN _ _ _ (by simp)) _) _, blkN (newN _ _ _ (by simp)) _⟩
  have hx0 : ((((w.alloc (.cells #[.slice a len cap] 27)).alloc (.cells #[.int .i64 0, .int .i64 0, .int .i64 0, .int .i64 0, .int .i64 0, .int .i64 0] 98)).alloc (.cells #[.int .i64 0, .int .i64 0, .int .i64 0, .int .i64 0, .int .i64 0, .int .i64 0] 98)).alloc (.cells #[.pointer (some ⟨w.heap.size + 2, 0, none⟩)] 111)).heap[w.heap.size + 3]? = some (.cells #[.pointer (some ⟨w.heap.size + 2, 0, none⟩)] 111 (0, 0)) := newN _ _ _ (by simp)
  have hs0 : (((w.alloc (.cells #[.slice a len cap] 27)).alloc (.cells #[.int .i64 0, .int .i64 0, .int .i64 0, .int .i64 0, .int .i64 0, .int .i64 0] 98)).alloc (.cells #[.int .i64 0, .int .i64 0, .int .i64 0, .int .i64 0, .int .i64 0, .int .i64 0] 98)).heap.size = w.heap.size + 3 := by simp
  clear hb0 hl hlc hc hR h14
  gi_wp2_with fail
  generalize hW0 : (((w.alloc (.cells #[.slice a len cap] 27)).alloc (.cells #[.int .i64 0, .int .i64 0, .int .i64 0, .int .i64 0, .int .i64 0, .int .i64 0] 98)).alloc (.cells #[.int .i64 0, .int .i64 0, .int .i64 0, .int .i64 0, .int .i64 0, .int .i64 0] 98)) = W0 at *
  refine ⟨trivial, (withLimits_in (n - 1) (w.heap.size + 2) W0).mono ?_⟩
  rintro e w1 ⟨rfl, rfl⟩
  rw [hs0]
  have hs4 : (W0.alloc (.cells #[.pointer (some ⟨w.heap.size + 2, 0, none⟩)] 111)).heap.size = w.heap.size + 4 := by simp; omega
  have HB0 := Lib.hid B0
  have HX0 := Lib.hid hx0
  clear B0 hx0 hW0
  gi_wp2
  generalize W0.alloc (.cells #[.pointer (some ⟨w.heap.size + 2, 0, none⟩)] 111) = V at *
  refine range_okD rfl h1n (gf := 74) (lb := #[.pointer (some ⟨w.heap.size + 3, 0, none⟩)]) rfl trivial (enters_of Tryd.func74 (by kernel_rfl) rfl)
    (lims_ok (n - 1) (by omega) (w.heap.size + 3) (w.heap.size + 2) (w.heap.size + 4) V (by omega) HX0.out) (fun _ _ _ _ _ _ h _ _ _ => h) (fun h k => h.trans k) (fun W l o o' _ hl hc _ => KeepL.putObj _ _ W o' hl hc) (fun _ => rfl)
    (NiInv bs w) (fun _ _ _ => False) (niInv_abide bs w V.heap.size (by omega)) (fun _ => ⟨fun _ _ _ h => h, fun _ _ _ _ _ h _ _ _ => h⟩) (fun _ W h => NiBase.drewN h 1) HB0.out
    (fun x => .cells (limOf x) 105) (fun W x => KeepL.alloc _ _ W _) (fun _ _ _ h => h)
    (fun x b => { tmps := #[.slice a len cap, .pointer (some ⟨w.heap.size, 0, none⟩), .pointer (some ⟨w.heap.size + 1, 0, none⟩), .pointer (some ⟨w.heap.size + 2, 0, none⟩), .pointer (some ⟨w.heap.size + 2, x, none⟩), .pointer (some ⟨b, 0, none⟩), undef, undef, .func (.func 74) #[] #[.pointer (some ⟨w.heap.size + 3, 0, none⟩)], .pointer (some ⟨w.heap.size + 2, x, none⟩), .agg (limOf x), undef, undef, undef, undef, undef, undef, undef, undef, undef, undef, undef, undef, undef, undef, undef, undef, undef, undef, undef, undef, undef, undef, undef, undef, undef, undef, undef, undef, undef, undef, undef, undef, undef, undef, undef], defers := [] }) ?assign ?body ?done ?stop
  case assign =>
    intro l x W K hK
    simp only [onumAt, limOf] at hK ⊢
    gi_wp2
    exact hK
  case stop =>
    rintro D c pre W hD _ hf hK
    exact hf.elim
  case done =>
    rintro D ys W hD rfl hb hK
    have HB := Lib.hid hb
    have HK := Lib.hid hK
    have HD := Lib.hid (show w.heap.size + 4 ≤ D by omega)
    have hnu : ∀ x : Nat, x < 6 → W.cell? ⟨w.heap.size + 2, x, none⟩ = some (.int .i64 (nval bs x)) := nu_cell hb.nu
    have n0 := hnu 0 (by omega)
    have n1 := hnu 1 (by omega)
    have n2 := hnu 2 (by omega)
    have n3 := hnu 3 (by omega)
    have n4 := hnu 4 (by omega)
    have n5 := hnu 5 (by omega)
    have hrc : ∀ x : Nat, x < 6 → W.cell? ⟨w.heap.size + 1, x, none⟩ = some (.int .i64 ((fun _ => 0 : Nat → Int) x)) := nu_cell (nv := fun _ => 0) hb.ro
    have q0 := hrc 0 (by omega)
    have q1 := hrc 1 (by omega)
    have q2 := hrc 2 (by omega)
    have q3 := hrc 3 (by omega)
    have q4 := hrc 4 (by omega)
    have q5 := hrc 5 (by omega)
    have f0 := o_frozen hb.ro 0
    have f1 := o_frozen hb.ro 1
    have f2 := o_frozen hb.ro 2
    have f3 := o_frozen hb.ro 3
    have f4 := o_frozen hb.ro 4
    have f5 := o_frozen hb.ro 5
    clear hb hK hD hnu hrc
    simp only [Exit.inBlock, Exit.then]
    apply_assumption
    rw [wpIn_wide]
    go_wp2
    have D2 : ((((((W.setCell ⟨w.heap.size + 1, 0, none⟩ (.int .i64 (nval bs 0))).setCell ⟨w.heap.size + 1, 1, none⟩ (.int .i64 (nval bs 1))).setCell ⟨w.heap.size + 1, 2, none⟩ (.int .i64 (nval bs 2))).setCell ⟨w.heap.size + 1, 3, none⟩ (.int .i64 (nval bs 3))).setCell ⟨w.heap.size + 1, 4, none⟩ (.int .i64 (nval bs 4))).setCell ⟨w.heap.size + 1, 5, none⟩ (.int .i64 (nval bs 5))).heap[w.heap.size + 1]? = some (.cells [.int .i64 (nval bs 0), .int .i64 (nval bs 1), .int .i64 (nval bs 2), .int .i64 (nval bs 3), .int .i64 (nval bs 4), .int .i64 (nval bs 5)].toArray 98 (0, 0)) := full_setCells HB.out.ro [.int .i64 (nval bs 0), .int .i64 (nval bs 1), .int .i64 (nval bs 2), .int .i64 (nval bs 3), .int .i64 (nval bs 4), .int .i64 (nval bs 5)] rfl
    have K2 : ((((((W.setCell ⟨w.heap.size + 1, 0, none⟩ (.int .i64 (nval bs 0))).setCell ⟨w.heap.size + 1, 1, none⟩ (.int .i64 (nval bs 1))).setCell ⟨w.heap.size + 1, 2, none⟩ (.int .i64 (nval bs 2))).setCell ⟨w.heap.size + 1, 3, none⟩ (.int .i64 (nval bs 3))).setCell ⟨w.heap.size + 1, 4, none⟩ (.int .i64 (nval bs 4))).setCell ⟨w.heap.size + 1, 5, none⟩ (.int .i64 (nval bs 5))).heap[D]? = some (.deferred (some [])) := (others_setCells (w.heap.size + 1) [.int .i64 (nval bs 0), .int .i64 (nval bs 1), .int .i64 (nval bs 2), .int .i64 (nval bs 3), .int .i64 (nval bs 4), .int .i64 (nval bs 5)] 0 W).same D _ HK.out rfl
    have B2 : Below w.heap.size w ((((((W.setCell ⟨w.heap.size + 1, 0, none⟩ (.int .i64 (nval bs 0))).setCell ⟨w.heap.size + 1, 1, none⟩ (.int .i64 (nval bs 1))).setCell ⟨w.heap.size + 1, 2, none⟩ (.int .i64 (nval bs 2))).setCell ⟨w.heap.size + 1, 3, none⟩ (.int .i64 (nval bs 3))).setCell ⟨w.heap.size + 1, 4, none⟩ (.int .i64 (nval bs 4))).setCell ⟨w.heap.size + 1, 5, none⟩ (.int .i64 (nval bs 5))) := below_setCells (w.heap.size + 1) (by omega) [.int .i64 (nval bs 0), .int .i64 (nval bs 1), .int .i64 (nval bs 2), .int .i64 (nval bs 3), .int .i64 (nval bs 4), .int .i64 (nval bs 5)] 0 w _ HB.out.lo
    clear q0 q1 q2 q3 q4 q5 f0 f1 f2 f3 f4 f5 n0 n1 n2 n3 n4 n5
    generalize ((((((W.setCell ⟨w.heap.size + 1, 0, none⟩ (.int .i64 (nval bs 0))).setCell ⟨w.heap.size + 1, 1, none⟩ (.int .i64 (nval bs 1))).setCell ⟨w.heap.size + 1, 2, none⟩ (.int .i64 (nval bs 2))).setCell ⟨w.heap.size + 1, 3, none⟩ (.int .i64 (nval bs 3))).setCell ⟨w.heap.size + 1, 4, none⟩ (.int .i64 (nval bs 4))).setCell ⟨w.heap.size + 1, 5, none⟩ (.int .i64 (nval bs 5))) = W2 at *
    refine ⟨by simp, .inl ⟨_, _, rfl, run_takeDeferred K2, ?_⟩⟩
    refine ⟨_, results_cell_row rfl _ _ (w.heap.size + 1) 98 _ (0, 0) _ rfl ((World.putObj_heap_other (by have := HD.out; omega)).trans D2) Tryd.underlying98 rfl Tryd.infoNum, ?_⟩
    exact ⟨rfl, B2.trans (belowK_b (w := w) (Nat.le_refl _) _ D _ _ (by have := HD.out; omega) K2 rfl rfl)⟩
  case body =>
    rintro l pre x W b hb ⟨hx, hx6⟩ hb1 hb2 hbx
    subst hx
    have HB := Lib.hid (show NiBase bs w pre.length (nfill bs pre.length) W from hb)
    have HX := Lib.hid (And.intro hx6 (And.intro hb1 (And.intro hb2 hbx)))
    obtain ⟨ca, cb, cc⟩ := lim_cells hbx
    obtain ⟨ab, cpb, hbb, hrb, hcb⟩ := hb.bx
    have cbx := ptr_cell hbb
    have HRB := Lib.hid (And.intro hrb hcb)
    have HBX := Lib.hid hbb
    rw [nwd_nw] at cc
    have HO := Lib.hid (noff_succ _ hx6)
    clear hb hb1 hb2 hbx HX0 HB0 hx6 hbb hrb hcb
    generalize hpl : pre.length = x at *
    have HPL := Lib.hid hpl
    clear hpl
    have hle : nw x ≤ cpb := by have := HO.out; have := HRB.out; omega
    have hle2 : (nw x : Int) ≤ (cpb : Int) := by omega
    have hle3 : ¬ (cpb : Int) < (nw x : Int) := by omega
    have hlen : bs.length = 14 := by have := HL.out; omega
    obtain ⟨b0, off0, rfl, hb0, hc0⟩ := HRB.out.1.2 (by have := HO.out; simp; omega)
    clear hb0 hc0
    gi_wp2_with fail
    gi_loopw [16] (fun i wr => ∃ k : Nat, k ≤ nw x ∧ i = .int .i64 (k : Nat) ∧ NiBase bs w x (upd (nfill bs x) x (numOf ((nrow bs x).take k))) wr ∧ wr.heap[w.heap.size]? = some (.cells #[.slice (some ⟨b0, off0, none⟩) (14 - noff x) cpb] 27 (0, 0)) ∧ Below w.heap.size W wr ∧ KeepL (w.heap.size + 3) (w.heap.size + 4) W wr ∧ KeepsFrom (w.heap.size + 4) W wr)
      (fun i _ => nw x - (intOf i).toNat)
    case atStart =>
      refine ⟨0, by omega, rfl, ?_, HBX.out, Below.refl _ _, KeepL.refl _ _ _, ⟨Nat.le_refl _, fun _ _ _ h _ => h⟩⟩
      have := HB.out
      rw [← upd_zero bs x] at this
      exact this
    case round =>
      obtain ⟨k, hk, rfl, hN, hbxr, hlo, hkl, hkf⟩ := hrel
      by_cases hlt : k < nw x
      · have hnl : (nrow bs x).length = nw x := by unfold nrow; have := HO.out; simp; omega
        obtain ⟨b', off', e', hb', hc'⟩ := (HRB.out.1.below hlo).2 (by have := HO.out; simp; omega)
        injection e' with e'
        injection e' with e1 e2
        subst e1 e2
        have q1 := hc' k (by have := HO.out; simp; omega)
        have cv := nu_cell hN.nu x HX.out.1
        rw [show upd (nfill bs x) x (numOf ((nrow bs x).take k)) x = numOf ((nrow bs x).take k) from if_pos rfl] at cv
        have fv := o_frozen hN.nu x
        have hvb := num_lt ((nrow bs x).take k) (in_take (in_take (in_drop HI.out _) _) _) 5 (by have := HO.out; rw [List.length_take]; omega)
        have hcb := getD_in (in_drop HI.out (noff x)) (by decide) k
        have hsn : numOf ((nrow bs x).take (k + 1)) = numOf ((nrow bs x).take k) * 256 + (bs.drop (noff x))[k]?.getD 0 := by
          rw [List.take_add_one, show (nrow bs x)[k]? = some ((bs.drop (noff x))[k]?.getD 0) by
            unfold nrow
            rw [List.getElem?_take_of_lt hlt]
            rw [List.getElem?_eq_getElem (by have := HO.out; simp; omega)]
            rfl]
          exact numOf_snoc _ _
        have HSN := Lib.hid hsn
        have HN := Lib.hid hN
        have HBR := Lib.hid hbxr
        have HLO := Lib.hid (And.intro hlo (And.intro hkl hkf))
        clear hc' hb' hsn hN hlo hkl hkf hnl hbxr
        generalize numOf ((nrow bs x).take k) = v at *
        generalize (bs.drop (noff x))[k]?.getD 0 = c at *
        have q3 : (k : Int) < (nw x : Int) := by omega
        have q7 : k < 6 := by have := HO.out; omega
        have hob := or_byte v c hvb.1 (by have := hvb.2; simpa using this) hcb
        have HOB := Lib.hid hob
        clear hob
        gi_wp2
        go_roundw
        case rel =>
          refine ⟨k + 1, by omega, by go_num, ?_, (Below.heap_setCell wr ⟨w.heap.size + 2, x, none⟩ _ _ (by simp)).trans HBR.out, HLO.out.1.trans ((Below.refl _ _).setCell (p := ⟨w.heap.size + 2, x, none⟩) (by simp) _), HLO.out.2.1.trans (KeepL.setCell _ _ _ _ _ (by simp) (by simp)), HLO.out.2.2.trans ((KeepsOthers.setCell _ _ _).from _)⟩
          have := HN.out.set x HX.out.1 (bits .or .i64 (v * 256) c)
          rw [upd_upd, HOB.out, ← HSN.out] at this
          rw [HOB.out, ← HSN.out]
          exact this
        case measure => simp [intOf]; omega
      · obtain rfl : k = nw x := by omega
        have htk : (nrow bs x).take (nw x) = nrow bs x := List.take_of_length_le (by unfold nrow; rw [List.length_take]; omega)
        rw [htk] at hN
        have hbx2 := hkl.2 b _ (.inr (by have := HX.out.2.1; omega)) HX.out.2.2.2 rfl
        obtain ⟨ca2, cb2, cc2⟩ := lim_cells hbx2
        have cv := nu_cell hN.nu x HX.out.1
        rw [show upd (nfill bs x) x (numOf (nrow bs x)) x = numOf (nrow bs x) from if_pos rfl] at cv
        have fv := o_frozen hN.nu x
        rw [nwd_nw] at cc2
        have q3 : decide ((nw x : Int) < (nw x : Int)) = false := decide_eq_false (by omega)
        have HN := Lib.hid hN
        have HBR := Lib.hid hbxr
        have HLO := Lib.hid (And.intro hlo (And.intro hkl hkf))
        have cbx2 := ptr_cell hbxr
        have fbx2 := o_frozen hbxr 0
        have hne1 : w.heap.size + 2 ≠ b := by have := HX.out.2.1; omega
        have hne2 : b ≠ w.heap.size + 2 := by omega
        have hle4 : (nw x : Int) ≤ ((14 - noff x : Nat) : Int) := by have := HO.out; omega
        have hle5 : nw x ≤ 14 - noff x := by omega
        have FIN : Hid (∀ (V' : World) (f : Nat → Int), NiBase bs w x f V' → f = nfill bs (x + 1) → V'.heap[w.heap.size]? = some (.cells #[.slice (some ⟨b0, off0, none⟩) (14 - noff x) cpb] 27 (0, 0)) → Below w.heap.size W V' → KeepL (w.heap.size + 3) (w.heap.size + 4) W V' → KeepsFrom (w.heap.size + 4) W V' →
            ∀ A C, A = (if cpb = nw x then some ⟨b0, off0, none⟩ else some ⟨b0, off0 + nw x, none⟩ : Option Addr) → C = cpb - nw x →
            KeepsFrom (w.heap.size + 4) W (V'.setCell ⟨w.heap.size, 0, none⟩ (.slice A (14 - noff x - nw x) C)) ∧ KeepL (w.heap.size + 3) (w.heap.size + 4) W (V'.setCell ⟨w.heap.size, 0, none⟩ (.slice A (14 - noff x - nw x) C)) ∧ NiInv bs w (pre ++ [x]) (V'.setCell ⟨w.heap.size, 0, none⟩ (.slice A (14 - noff x - nw x) C))) := Lib.hid (by
          rintro V' f h1 rfl h2 h3 h4 h5 A C rfl rfl
          refine ⟨h5.trans ((KeepsOthers.setCell _ _ _).from _), h4.trans (KeepL.setCell _ _ _ _ _ (by simp) (by simp)), ?_⟩
          have hn := HO.out
          have e1 : 14 - noff x - nw x = 14 - noff (x + 1) := by rw [hn.1]; omega
          unfold NiInv
          rw [List.length_append, HPL.out, List.length_singleton, e1]
          refine h1.next _ _ ?_ (by have := HRB.out.2; omega)
          rw [hn.1, ← List.drop_drop]
          exact (HRB.out.1.below h3).dropIf _ (fun he => List.drop_eq_nil_of_le (by have := HRB.out.2; have := HX.out.1; simp; omega)))
        clear hlo hkl hkf hbx2 ca cb cc cbx htk hN hbxr
        have hc : (nlo x = -1 ∧ numOf (nrow bs x) = 255) ∨ (nlo x = -1 ∧ (numOf (nrow bs x) == 255) = false) ∨ ((nlo x == -1) = false) := by
          by_cases h1 : nlo x = -1
          · by_cases h2 : numOf (nrow bs x) = 255
            · exact .inl ⟨h1, h2⟩
            · exact .inr (.inl ⟨h1, by simpa using h2⟩)
          · exact .inr (.inr (by simpa using h1))
        rcases hc with ⟨h1, h2⟩ | ⟨h1, h2⟩ | h1
        · rw [h1] at ca2
          rw [h2] at cv
          have hv : nval bs x = -1 := if_pos ⟨h1, h2⟩
          have HV := Lib.hid hv
          clear h1 h2 hv
          gi_wp2_with fail
          all_goals exact FIN.out (wr.setCell ⟨w.heap.size + 2, x, none⟩ (.int .i64 (-1))) _ (HN.out.set x HX.out.1 (-1)) (by rw [upd_upd, ← HV.out, upd_fill]) ((Below.heap_setCell wr ⟨w.heap.size + 2, x, none⟩ _ _ (by simp)).trans HBR.out) (HLO.out.1.trans ((Below.refl _ _).setCell (p := ⟨w.heap.size + 2, x, none⟩) (by simp) _)) (HLO.out.2.1.trans (KeepL.setCell _ _ _ _ _ (by simp) (by simp))) (HLO.out.2.2.trans ((KeepsOthers.setCell _ _ _).from _)) _ _ (by split <;> first | rfl | (exfalso; omega)) (by omega)
        · rw [h1] at ca2
          have hv : nval bs x = numOf (nrow bs x) := if_neg (fun h => by rw [h.2] at h2; simp at h2)
          have HV := Lib.hid hv
          clear h1 hv
          gi_wp2_with fail
          all_goals exact FIN.out wr _ HN.out (by rw [← HV.out, upd_fill]) HBR.out HLO.out.1 HLO.out.2.1 HLO.out.2.2 _ _ (by split <;> first | rfl | (exfalso; omega)) (by omega)
        · have hv : nval bs x = numOf (nrow bs x) := if_neg (fun h => by rw [h.1] at h1; simp at h1)
          have HV := Lib.hid hv
          clear hv
          gi_wp2_with fail
          all_goals exact FIN.out wr _ HN.out (by rw [← HV.out, upd_fill]) HBR.out HLO.out.1 HLO.out.2.1 HLO.out.2.2 _ _ (by split <;> first | rfl | (exfalso; omega)) (by omega)
end Go.Proofs.YthenbpnlmpeafaaDoor
