/- Words of my own for memory: a slice of integers that reads as a list, nil let in; small facts on bits. Nothing of the program is imported. -/
import Derived.Below
import Derived.Laws.OwnMore
import Derived.Laws.BitsAllLaws
import Derived.Deep.AppendLies
import Derived.Deep.Draws
import Derived.IntWalk
import Derived.Laws.Rows
import Derived.Lib.Hide
namespace Go.Proofs.YtpbheonapgckfaaDoor
open Go.RowKit

/-- The slice value '.slice a zs.length cap' holds the integers zs, in a block below B; where there is none, nothing is said of a. -/
def Row (k : IntKind) (B : Nat) (w : World) (a : Option Addr) (zs : List Int) : Prop :=
  (∀ n ∈ zs, (Lit.int k n).wf = true) ∧
  (0 < zs.length → ∃ b off, a = some ⟨b, off, none⟩ ∧ b < B ∧ ∀ j, j < zs.length → w.cell? ⟨b, off + j, none⟩ = some (.int k (zs[j]?.getD 0)))

theorem Row.keep {k : IntKind} {B : Nat} {w w' : World} {a : Option Addr} {zs : List Int} (h : Row k B w a zs) (hk : ∀ p : Addr, p.block < B → w'.cell? p = w.cell? p) : Row k B w' a zs :=
  ⟨h.1, fun hl => by
    obtain ⟨b, off, e, hb, hc⟩ := h.2 hl
    exact ⟨b, off, e, hb, fun j hj => (hk _ hb).trans (hc j hj)⟩⟩
theorem Row.below {k : IntKind} {B : Nat} {w w' : World} {a : Option Addr} {zs : List Int} (h : Row k B w a zs) (hb : Below B w w') : Row k B w' a zs := h.keep fun _ hp => hb.cell hp
theorem Row.more {k : IntKind} {B B' : Nat} {w : World} {a : Option Addr} {zs : List Int} (h : Row k B w a zs) (hB : B ≤ B') : Row k B' w a zs :=
  ⟨h.1, fun hl => by
    obtain ⟨b, off, e, hb, hc⟩ := h.2 hl
    exact ⟨b, off, e, by omega, hc⟩⟩
/-- As a step to a later world: what lay below w's size. -/
theorem Row.step {k : IntKind} {w w' : World} {a : Option Addr} {zs : List Int} (h : Row k w.heap.size w a zs) (hb : Below w.heap.size w w') : Row k w'.heap.size w' a zs := (h.below hb).more hb.size
theorem Row.drewN {k : IntKind} {B : Nat} {w : World} {a : Option Addr} {zs : List Int} (h : Row k B w a zs) (n : Nat) : Row k B (w.drewN n) a zs := h
theorem Row.nil (k : IntKind) (B : Nat) (w : World) (a : Option Addr) : Row k B w a [] := ⟨by simp, fun h => absurd h (by simp)⟩

theorem wf_u8 {n : Int} : (Lit.int .u8 n).wf = true ↔ 0 ≤ n ∧ n ≤ 255 := by simp [Lit.wf, IntKind.min, IntKind.max, IntKind.bits, IntKind.signed]
theorem wf_i64 {n : Int} : (Lit.int .i64 n).wf = true ↔ -9223372036854775808 ≤ n ∧ n ≤ 9223372036854775807 := by simp [Lit.wf, IntKind.min, IntKind.max, IntKind.bits, IntKind.signed]
/-- 'at = ((at % n) + n) % n': a number from 0 to n - 1. -/
theorem at_mod (a : Int) (n : Nat) (hn : 1 ≤ n) (hb : n ≤ 1000000000) : ∃ (m : Int) (j : Nat), a.tmod (n : Int) = m ∧ -1000000000 ≤ m ∧ m ≤ 1000000000 ∧ (0 ≤ m + (n : Int) ∧ (m + (n : Int)) % (n : Int) = (j : Int)) ∧ j < n := by
  have h1 : a.tmod n < n := Int.tmod_lt_of_pos a (by omega)
  have h2 : -(n : Int) < a.tmod n := by
    have := Int.lt_tmod_of_pos a (b := (n : Int)) (by omega)
    omega
  have h3 := Int.emod_nonneg (a.tmod n + n) (b := (n : Int)) (by omega)
  have h4 := Int.emod_lt_of_pos (a.tmod n + n) (b := (n : Int)) (by omega)
  exact ⟨_, ((a.tmod n + n) % n).toNat, rfl, by omega, by omega, ⟨by omega, by omega⟩, by omega⟩
theorem wf_u16 {n : Int} : (Lit.int .u16 n).wf = true ↔ 0 ≤ n ∧ n ≤ 65535 := by simp [Lit.wf, IntKind.min, IntKind.max, IntKind.bits, IntKind.signed]

/-- A slice of the call's own reads as what it owns. -/
theorem Row.of_own {k : IntKind} {w : World} {base : Nat} {e : TypeId} {a : Option Addr} {n c : Nat} {zs : List Int} (h : w.ownsRow base e 1 (.slice a n c) n (zs.map (Value.int k))) (hw : ∀ n ∈ zs, (Lit.int k n).wf = true) : Row k w.heap.size w a zs := by
  refine ⟨hw, fun hl => ?_⟩
  have hn : zs.length = n := by have := h.1; simpa using this
  obtain ⟨g, cap, hv, _, hlt⟩ := h.form (by omega)
  have hA : a = some ⟨g, 0, none⟩ := by injection hv
  subst hA
  refine ⟨g, 0, rfl, hlt, fun j hj => ?_⟩
  have := h.cells (g := g) rfl j (.int k (zs[j]?.getD 0)) (by simp [hj])
  have e : (⟨g, 0, none⟩ : Addr).add j = ⟨g, 0 + j, none⟩ := by unfold Addr.add; split <;> simp_all
  rwa [e] at this

/-- A slice that was just built. -/
theorem Row.built (k : IntKind) (w : World) (t : TypeId) (zs : List Int) (hw : ∀ n ∈ zs, (Lit.int k n).wf = true) : Row k (w.heap.size + 1) (w.alloc (.cells (zs.map (Value.int k)).toArray t)) (some ⟨w.heap.size, 0, none⟩) zs :=
  ⟨hw, fun _ => ⟨w.heap.size, 0, rfl, by omega, fun j hj => by
    rw [cell_of_row _ _ _ _ _ _ (heap_alloc_new w _)]
    simp [hj]⟩⟩

theorem Row.builtAt (k : IntKind) {w : World} {n : Nat} (hn : w.heap.size = n) (t : TypeId) (zs : List Int) (hw : ∀ n ∈ zs, (Lit.int k n).wf = true) : Row k (n + 1) (w.alloc (.cells (zs.map (Value.int k)).toArray t)) (some ⟨n, 0, none⟩) zs := by
  subst hn
  exact Row.built k w t zs hw
theorem Row.allocS {k : IntKind} {w : World} {a : Option Addr} {zs : List Int} (h : Row k w.heap.size w a zs) (o : Obj) : Row k (w.alloc o).heap.size (w.alloc o) a zs := h.step ((Below.refl _ w).alloc (Nat.le_refl _) o)
theorem Row.size {k : IntKind} {B B' : Nat} {w : World} {a : Option Addr} {zs : List Int} (h : Row k B w a zs) (e : B' = B) : Row k B' w a zs := e ▸ h

/-- 'n & 0xffff + n >> 16' where nothing wraps. -/
theorem carry_bits (n : Int) (h0 : 0 ≤ n) (h1 : n ≤ 4503599627370495) : IntKind.u64.wrap (bits .and .u64 n 65535 + n / 65536) = n % 65536 + n / 65536 := by
  rw [u64_and n 65535 h0 (by omega) (by omega) (by omega)]
  have e : (n.toNat &&& (65535 : Int).toNat : Nat) = n.toNat % 65536 := Nat.and_two_pow_sub_one_eq_mod n.toNat 16
  rw [e, IntWalk.u64_in _ (by omega)]
  omega
/-- A high byte and a low byte, as one word. -/
theorem or_word (a b : Int) (ha : 0 ≤ a) (ha' : a ≤ 255) (hb : 0 ≤ b) (hb' : b ≤ 255) : bits .or .u16 (a * 256) b = 256 * a + b := by
  rw [u16_or (a * 256) b (by omega) (by omega) hb (by omega)]
  have e : ((a * 256).toNat ||| b.toNat : Nat) = a.toNat * 256 + b.toNat := by
    have := Nat.shiftLeft_add_eq_or_of_lt (i := 8) (b := b.toNat) (by omega) a.toNat
    rw [Nat.shiftLeft_eq] at this
    have e2 : (a * 256).toNat = a.toNat * 2 ^ 8 := by omega
    rw [e2]
    omega
  rw [e]
  omega
theorem xor_ones (c : Nat) (h : c < 65536) : (65535 ^^^ c : Nat) = 65535 - c := by
  have e : 65535 - c = 2 ^ 16 - (c + 1) := by omega
  rw [e]
  apply Nat.eq_of_testBit_eq
  intro i
  rw [Nat.testBit_two_pow_sub_succ (by omega), Nat.testBit_xor, show (65535 : Nat) = 2 ^ 16 - 1 from rfl, Nat.testBit_two_pow_sub_one]
  by_cases hi : i < 16
  · simp [hi]
  · have : c.testBit i = false := Nat.testBit_lt_two_pow (Nat.lt_of_lt_of_le h (Nat.pow_le_pow_right (n := 2) (by omega) (show 16 ≤ i by omega)))
    simp [hi, this]
/-- '^x' of a word. -/
theorem not_u16 (c : Int) (h0 : 0 ≤ c) (h1 : c ≤ 65535) : bits .xor .u16 IntKind.u16.max c = 65535 - c := by
  have e : IntKind.u16.max = 65535 := by simp [IntKind.max, IntKind.bits, IntKind.signed]
  rw [e, u16_xor 65535 c (by omega) (by omega) h0 (by omega)]
  have := xor_ones c.toNat (by omega)
  rw [show (65535 : Int).toNat = 65535 from rfl, this]
  omega
end Go.Proofs.YtpbheonapgckfaaDoor
