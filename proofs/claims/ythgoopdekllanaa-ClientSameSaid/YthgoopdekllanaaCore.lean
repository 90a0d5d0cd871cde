/- Core: Plain facts on words, sums of words and the end-around carry, over lists of integers. Nothing of the program is imported. Plain facts on bytes of which some are set: what becomes of the sum of their words. Nothing of the program is imported. Words of my own for memory: a slice of integers that reads as a list, nil let in; small facts on bits. Nothing of the program is imported. What the body of a loop over an iterator must keep, where the iterator reads boxes of its own in every round. Nothing of the program is imported. From a slice of integers that came in to 'Row'; a slice of the call's own -/
import Derived.Below
import Derived.Laws.OwnMore
import Derived.Laws.BitsAllLaws
import Derived.Deep.AppendLies
import Derived.Deep.Draws
import Derived.IntWalk
import Derived.Laws.Rows
import Derived.Lib.Hide
import Derived.RangeFuncNested
import Derived.RangeFuncBound
import Derived.RangeFuncCalls
import Derived.RangeFuncLeaves
import Derived.RangeFuncBox
import Derived.Shelf.Abstract
import Derived.Shelf.RegionOpen
import Derived.WalkKit
import Derived.OwnWalkIn
import Derived.TacticsInMore
import Derived.LoopNIn
import Derived.LoopIn
import Derived.Maps.AppendAt
import Derived.Outline
import Derived.DataReads
import Derived.Laws.AppendOwnNone
import Derived.Deep.RegionLaw
import Derived.Deep.MidRow
import Derived.Test.YthgoopdekllanaaProg
import Derived.WalkMore
import Derived.ScopeJumps
import Derived.Lib.SliceRun
import Derived.Laws.BytesArg
import Derived.Laws.ResultCell
import Derived.Deep.RegionHeld3
import Derived.ControlIn
import Derived.RegionTactic
import Derived.BigQuiet
import Derived.Deep.QuietTactic
import Derived.Laws.StructEq
import Derived.Test.YthgoopdekllanaaRows
import Derived.ProofKit
import Derived.LaidMore
import Derived.OpenShut
import Derived.Stop.Joined
import Derived.Lib.SmallJoins
import Derived.Deep.Slices

/- Plain facts on words, sums of words and the end-around carry, over lists of integers. Nothing of the program is imported. -/
namespace Go.Proofs.Ythgoopdekllanaa.SumM

/-- The sum of words, as a number from 0 to 65535: 0 for 0, else the rest by 65535 with 65535 for 0. -/
def cr (n : Int) : Int := if n = 0 then 0 else (n - 1) % 65535 + 1
/-- All numbers of a list, added. -/
def tot : List Int → Int
  | [] => 0
  | x :: r => x + tot r
/-- Word number k of bytes. -/
def wordAt (bs : List Int) (k : Nat) : Int := 256 * (bs[2 * k]?.getD 0) + (bs[2 * k + 1]?.getD 0)
/-- The words of bytes. -/
def upto (f : Nat → Int) (k : Nat) : List Int := (List.range k).map f
def words (bs : List Int) : List Int := upto (wordAt bs) ((bs.length + 1) / 2)
/-- The sum of bytes. -/
def sumOf (bs : List Int) : Int := cr (tot (words bs))
/-- All numbers of a list are from 0 to m. -/
def In (m : Int) (l : List Int) : Prop := ∀ x ∈ l, 0 ≤ x ∧ x ≤ m

theorem upto_succ (f : Nat → Int) (k : Nat) : upto f (k + 1) = upto f k ++ [f k] := by simp [upto, List.range_succ]
theorem upto_length (f : Nat → Int) (k : Nat) : (upto f k).length = k := by simp [upto]
theorem upto_get (f : Nat → Int) (k i : Nat) (h : i < k) : (upto f k)[i]? = some (f i) := by simp [upto, h]
theorem words_length (bs : List Int) : (words bs).length = (bs.length + 1) / 2 := upto_length _ _

theorem tot_append (a b : List Int) : tot (a ++ b) = tot a + tot b := by
  induction a with
  | nil => simp [tot]
  | cons x r ih => simp only [List.cons_append, tot, ih]; omega
theorem tot_snoc (a : List Int) (x : Int) : tot (a ++ [x]) = tot a + x := by rw [tot_append]; simp [tot]

theorem tot_in {m : Int} (l : List Int) (h : In m l) : 0 ≤ tot l ∧ tot l ≤ m * l.length := by
  induction l with
  | nil => simp [tot]
  | cons x r ih =>
    have hx := h x (by simp)
    have hr := ih (fun y hy => h y (by simp [hy]))
    simp only [tot, List.length_cons]
    have e : m * ((r.length + 1 : Nat) : Int) = m * r.length + m := by rw [Int.natCast_add, Int.mul_add]; simp
    rw [e]
    omega

theorem getD_in {m : Int} {l : List Int} (h : In m l) (hm : 0 ≤ m) (i : Nat) : 0 ≤ l[i]?.getD 0 ∧ l[i]?.getD 0 ≤ m := by
  by_cases hi : i < l.length
  · rw [List.getElem?_eq_getElem hi]; exact h _ (List.getElem_mem hi)
  · rw [List.getElem?_eq_none (by omega)]; exact ⟨Int.le_refl 0, hm⟩

theorem wordAt_in {bs : List Int} (h : In 255 bs) (k : Nat) : 0 ≤ wordAt bs k ∧ wordAt bs k ≤ 65535 := by
  have h1 := getD_in h (by decide) (2 * k)
  have h2 := getD_in h (by decide) (2 * k + 1)
  unfold wordAt
  omega

theorem upto_in {m : Int} {f : Nat → Int} (h : ∀ k, 0 ≤ f k ∧ f k ≤ m) (n : Nat) : In m (upto f n) := by
  intro x hx
  simp only [upto, List.mem_map] at hx
  obtain ⟨k, _, rfl⟩ := hx
  exact h k
theorem words_in {bs : List Int} (h : In 255 bs) : In 65535 (words bs) := upto_in (wordAt_in h) _

theorem cr_in (n : Int) : 0 ≤ cr n ∧ cr n ≤ 65535 := by
  unfold cr
  split <;> omega
theorem cr_small {n : Int} (h0 : 0 ≤ n) (h : n ≤ 65535) : cr n = n := by
  unfold cr
  split <;> omega
/-- One turn of the carry. -/
theorem cr_step {n : Int} (h : 65535 < n) : cr (n % 65536 + n / 65536) = cr n := by
  unfold cr
  have h1 : n % 65536 + n / 65536 = n - 65535 * (n / 65536) := by omega
  split <;> split <;> omega
theorem cr_add {a b : Int} (ha : 0 ≤ a) (hb : 0 ≤ b) : cr (cr a + cr b) = cr (a + b) := by
  unfold cr
  split <;> split <;> split <;> split <;> omega
theorem cr_zero (a : Int) : cr a = 0 ↔ a = 0 := by
  unfold cr
  split <;> omega
theorem cr_acc {a x : Int} (ha : 0 ≤ a) (hx : 0 ≤ x) (hx' : x ≤ 65535) : cr (a + x) = if cr a + x > 65535 then cr a + x - 65535 else cr a + x := by
  unfold cr
  split <;> split <;> split <;> omega
/-- With its check laid in, the sum is 65535. -/
theorem cr_right {a : Int} (ha : 0 ≤ a) : cr (a + (65535 - cr a)) = 65535 := by
  unfold cr
  split <;> split <;> omega
/-- What is near to a right sum, and not it, is not right. -/
theorem cr_near {a d : Int} (ha : cr a = 65535) (h1 : d ≠ 0) (h2 : -65535 < d) (h3 : d < 65535) : cr (a + d) ≠ 65535 := by
  unfold cr at *
  split at ha <;> split <;> omega
theorem cr_change {t o n : Int} (ht : 0 ≤ t - o) (ho : 0 ≤ o) (ho' : o ≤ 65535) (hn : 0 ≤ n) (hn' : n ≤ 65535) (hp : 0 < t - o + n) :
    cr (cr t + (65535 - o) + n) = cr (t - o + n) := by
  unfold cr
  split <;> split <;> split <;> omega

theorem tot_zero (l : List Int) {m : Int} (h : In m l) : tot l = 0 ↔ ∀ x ∈ l, x = 0 := by
  induction l with
  | nil => simp [tot]
  | cons x r ih =>
    have hx := h x (by simp)
    have hr := tot_in r (fun y hy => h y (by simp [hy]))
    have hi := ih (fun y hy => h y (by simp [hy]))
    simp only [tot, List.mem_cons, forall_eq_or_imp]
    constructor
    · intro e
      exact ⟨by omega, hi.1 (by omega)⟩
    · rintro ⟨e, e2⟩
      have := hi.2 e2
      omega

theorem tot_set (l : List Int) (i : Nat) (hi : i < l.length) (v : Int) : tot (l.set i v) = tot l - l[i]?.getD 0 + v := by
  induction l generalizing i with
  | nil => simp at hi
  | cons x r ih =>
    cases i with
    | zero => simp [tot]; omega
    | succ j =>
      simp only [List.length_cons] at hi
      have := ih j (by omega)
      simp only [List.set_cons_succ, tot, this, List.getElem?_cons_succ]
      omega
theorem upto_congr {f g : Nat → Int} {n : Nat} (h : ∀ k, k < n → f k = g k) : upto f n = upto g n := by
  unfold upto
  apply List.map_congr_left
  intro k hk
  exact h k (by simpa using hk)
/-- Two noughts behind an even number of bytes. -/
theorem sum_zeros (bs : List Int) (h : bs.length % 2 = 0) : sumOf (bs ++ [0, 0]) = sumOf bs := by
  unfold sumOf words
  have e : ((bs ++ [0, 0]).length + 1) / 2 = (bs.length + 1) / 2 + 1 := by simp; omega
  rw [e, upto_succ, tot_snoc]
  have e1 : upto (wordAt (bs ++ [0, 0])) ((bs.length + 1) / 2) = upto (wordAt bs) ((bs.length + 1) / 2) := by
    apply upto_congr
    intro k hk
    unfold wordAt
    rw [List.getElem?_append_left (by omega), List.getElem?_append_left (by omega)]
  have e2 : wordAt (bs ++ [0, 0]) ((bs.length + 1) / 2) = 0 := by
    unfold wordAt
    rw [List.getElem?_append_right (by omega), List.getElem?_append_right (by omega)]
    have h1 : 2 * ((bs.length + 1) / 2) - bs.length = 0 := by omega
    have h2 : 2 * ((bs.length + 1) / 2) + 1 - bs.length = 1 := by omega
    rw [h1, h2]
    rfl
  rw [e1, e2, Int.add_zero]
end Go.Proofs.Ythgoopdekllanaa.SumM

/- Plain facts on bytes of which some are set: what becomes of the sum of their words. Nothing of the program is imported. -/
namespace Go.Proofs.Ythgoopdekllanaa.SumM

theorem words_get (bs : List Int) (k : Nat) (h : k < (bs.length + 1) / 2) : (words bs)[k]?.getD 0 = wordAt bs k := by
  unfold words
  rw [upto_get _ _ _ h]
  rfl
theorem getD_set (l : List Int) (i j : Nat) (v : Int) (hi : i < l.length) : (l.set i v)[j]?.getD 0 = if i = j then v else l[j]?.getD 0 := by
  rw [List.getElem?_set]
  by_cases h : i = j
  · simp [h] at *
    simp [hi]
  · simp [h]
theorem words_set (l : List Int) (i : Nat) (hi : i < l.length) (v : Int) : words (l.set i v) = (words l).set (i / 2) (wordAt (l.set i v) (i / 2)) := by
  apply List.ext_getElem
  · simp [words_length]
  · intro k h1 h2
    have hk : k < (l.length + 1) / 2 := by simpa [words_length] using h1
    have e1 : (words (l.set i v))[k] = wordAt (l.set i v) k := by
      have := words_get (l.set i v) k (by simpa using hk)
      rwa [List.getElem?_eq_getElem h1] at this
    rw [e1, List.getElem_set]
    by_cases h : i / 2 = k
    · rw [if_pos h, h]
    · rw [if_neg h]
      have e2 := words_get l k hk
      rw [List.getElem?_eq_getElem (by rw [words_length]; exact hk)] at e2
      rw [Option.getD_some] at e2
      rw [e2]
      unfold wordAt
      rw [getD_set l _ _ _ hi, getD_set l _ _ _ hi, if_neg (by omega), if_neg (by omega)]
theorem tot_words_set (l : List Int) (i : Nat) (hi : i < l.length) (v : Int) : tot (words (l.set i v)) = tot (words l) + (v - l[i]?.getD 0) * (if i % 2 = 0 then 256 else 1) := by
  rw [words_set l i hi v, tot_set _ _ (by rw [words_length]; omega), words_get l _ (by omega)]
  unfold wordAt
  rw [getD_set l _ _ _ hi, getD_set l _ _ _ hi]
  by_cases h : i % 2 = 0
  · have e : 2 * (i / 2) = i := by omega
    rw [if_pos h, e, if_pos rfl, if_neg (by omega)]
    omega
  · have e : 2 * (i / 2) + 1 = i := by omega
    rw [if_neg h, e, if_pos rfl, if_neg (by omega)]
    omega
theorem in_set {m : Int} {l : List Int} (h : In m l) (i : Nat) (v : Int) (hv : 0 ≤ v ∧ v ≤ m) : In m (l.set i v) := by
  intro x hx
  rcases List.mem_or_eq_of_mem_set hx with h' | h'
  · exact h x h'
  · rw [h']; exact hv
/-- Noughts at an even place, then the check there: the sum is right. -/
theorem right_set (l : List Int) (hin : In 255 l) (j : Nat) (hj : 2 * j + 1 < l.length) (K : Int) (hK : 65535 - sumOf ((l.set (2 * j) 0).set (2 * j + 1) 0) = K) :
    sumOf ((((l.set (2 * j) 0).set (2 * j + 1) 0).set (2 * j) (K / 256)).set (2 * j + 1) (K % 256)) = 65535 := by
  generalize hc : (l.set (2 * j) 0).set (2 * j + 1) 0 = c at *
  have hlen : c.length = l.length := by rw [← hc]; simp
  have h0 : c[2 * j]?.getD 0 = 0 := by
    rw [← hc, getD_set _ _ _ _ (by simp; omega), if_neg (by omega), getD_set _ _ _ _ (by omega), if_pos rfl]
  have h1 : c[2 * j + 1]?.getD 0 = 0 := by
    rw [← hc, getD_set _ _ _ _ (by simp; omega), if_pos rfl]
  have hic : In 255 c := by
    rw [← hc]
    exact in_set (in_set hin _ 0 ⟨by decide, by decide⟩) _ 0 ⟨by decide, by decide⟩
  have hp := tot_in (words c) (words_in hic)
  have hs := cr_in (tot (words c))
  have e : tot (words ((c.set (2 * j) (K / 256)).set (2 * j + 1) (K % 256))) = tot (words c) + (65535 - cr (tot (words c))) := by
    have s1 := tot_words_set c (2 * j) (by omega) (K / 256)
    rw [if_pos (by omega), h0] at s1
    have s2 := tot_words_set (c.set (2 * j) (K / 256)) (2 * j + 1) (by simp; omega) (K % 256)
    rw [if_neg (by omega), getD_set _ _ _ _ (by omega), if_neg (by omega), h1] at s2
    rw [s2, s1]
    unfold sumOf at hK
    omega
  unfold sumOf
  rw [e]
  exact cr_right hp.1

theorem xor_bit_nat : ∀ x : Fin 256, ∀ s : Fin 8, (x.val ^^^ 2 ^ s.val = x.val + 2 ^ s.val) ∨ ((x.val ^^^ 2 ^ s.val) + 2 ^ s.val = x.val) := by decide +kernel
theorem xor_bit (x s : Nat) (hx : x < 256) (hs : s < 8) : (x ^^^ 2 ^ s = x + 2 ^ s) ∨ ((x ^^^ 2 ^ s) + 2 ^ s = x) := xor_bit_nat ⟨x, hx⟩ ⟨s, hs⟩
theorem pow_le (s : Nat) (hs : s < 8) : 1 ≤ 2 ^ s ∧ 2 ^ s ≤ 128 :=
  ⟨Nat.one_le_two_pow, Nat.le_trans (Nat.pow_le_pow_right (by decide) (show s ≤ 7 by omega)) (by decide)⟩
/-- Behind a right sum, a bit turned: it is not right. -/
theorem wrong_set (l : List Int) (hr : sumOf l = 65535) (p : Nat) (hp : p < l.length) (v : Int) (s : Nat) (hs : s < 8) (hv : v = l[p]?.getD 0 + (2 ^ s : Nat) ∨ v + (2 ^ s : Nat) = l[p]?.getD 0) : sumOf (l.set p v) ≠ 65535 := by
  unfold sumOf at *
  rw [tot_words_set l p hp v]
  have h2 := pow_le s hs
  generalize (2 ^ s : Nat) = d at *
  refine cr_near hr ?_ ?_ ?_ <;> (split <;> omega)
/-- Two places changed about: the sum of all is the same. -/
theorem tot_swap (l : List Int) (i k : Nat) (hi : i < l.length) (hk : k < l.length) : tot ((l.set i (l[k]?.getD 0)).set k (l[i]?.getD 0)) = tot l := by
  rw [tot_set _ _ (by simpa using hk), tot_set _ _ hi, getD_set _ _ _ _ hi]
  by_cases h : i = k
  · rw [if_pos h, h]; omega
  · rw [if_neg h]; omega
end Go.Proofs.Ythgoopdekllanaa.SumM

/- Words of my own for memory: a slice of integers that reads as a list, nil let in; small facts on bits. Nothing of the program is imported. -/
namespace Go.Proofs.Ythgoopdekllanaa
open Go.RowKit

/-- The slice value '.slice a zs.length cap' holds the integers zs, in a block below B; where there is none, nothing is said of a. -/
def Row (k : IntKind) (B : Nat) (w : World) (a : Option Addr) (zs : List Int) : Prop :=
  (∀ n ∈ zs, (Lit.int k n).wf = true) ∧
  (0 < zs.length → ∃ b off, a = some ⟨b, off, none⟩ ∧ b < B ∧ ∀ j, j < zs.length → w.cell? ⟨b, off + j, none⟩ = some (.int k (zs[j]?.getD 0)))

theorem Row.keep {k : IntKind} {B : Nat} {w w' : World} {a : Option Addr} {zs : List Int} (h : Row k B w a zs) (hk : ∀ p : Addr, p.block < B → w'.cell? p = w.cell? p) : Row k B w' a zs :=
  ⟨h.1, fun hl => by
    obtain ⟨b, off, e, hb, hc⟩ := h.2 hl
    exact ⟨b, off, e, hb, fun j hj => (hk _ hb).trans (hc j hj)⟩⟩
theorem Row.below {k : IntKind} {B : Nat} {w w' : World} {a : Option Addr} {zs : List Int} (h : Row k B w a zs) (hb : Below B w w') : Row k B w' a zs := h.keep fun _ hp => hb.cell hp
theorem Row.more {k : IntKind} {B B' : Nat} {w : World} {a : Option Addr} {zs : List Int} (h : Row k B w a zs) (hB : B ≤ B') : Row k B' w a zs :=
  ⟨h.1, fun hl => by
    obtain ⟨b, off, e, hb, hc⟩ := h.2 hl
    exact ⟨b, off, e, by omega, hc⟩⟩
/-- As a step to a later world: what lay below w's size. -/
theorem Row.step {k : IntKind} {w w' : World} {a : Option Addr} {zs : List Int} (h : Row k w.heap.size w a zs) (hb : Below w.heap.size w w') : Row k w'.heap.size w' a zs := (h.below hb).more hb.size
theorem Row.drewN {k : IntKind} {B : Nat} {w : World} {a : Option Addr} {zs : List Int} (h : Row k B w a zs) (n : Nat) : Row k B (w.drewN n) a zs := h
theorem Row.nil (k : IntKind) (B : Nat) (w : World) (a : Option Addr) : Row k B w a [] := ⟨by simp, fun h => absurd h (by simp)⟩

theorem wf_u8 {n : Int} : (Lit.int .u8 n).wf = true ↔ 0 ≤ n ∧ n ≤ 255 := by simp [Lit.wf, IntKind.min, IntKind.max, IntKind.bits, IntKind.signed]
theorem wf_i64 {n : Int} : (Lit.int .i64 n).wf = true ↔ -9223372036854775808 ≤ n ∧ n ≤ 9223372036854775807 := by simp [Lit.wf, IntKind.min, IntKind.max, IntKind.bits, IntKind.signed]
/-- 'at = ((at % n) + n) % n': a number from 0 to n - 1. -/
theorem at_mod (a : Int) (n : Nat) (hn : 1 ≤ n) (hb : n ≤ 1000000000) : ∃ (m : Int) (j : Nat), a.tmod (n : Int) = m ∧ -1000000000 ≤ m ∧ m ≤ 1000000000 ∧ (0 ≤ m + (n : Int) ∧ (m + (n : Int)) % (n : Int) = (j : Int)) ∧ j < n := by
  have h1 : a.tmod n < n := Int.tmod_lt_of_pos a (by omega)
  have h2 : -(n : Int) < a.tmod n := by
    have := Int.lt_tmod_of_pos a (b := (n : Int)) (by omega)
    omega
  have h3 := Int.emod_nonneg (a.tmod n + n) (b := (n : Int)) (by omega)
  have h4 := Int.emod_lt_of_pos (a.tmod n + n) (b := (n : Int)) (by omega)
  exact ⟨_, ((a.tmod n + n) % n).toNat, rfl, by omega, by omega, ⟨by omega, by omega⟩, by omega⟩
theorem wf_u16 {n : Int} : (Lit.int .u16 n).wf = true ↔ 0 ≤ n ∧ n ≤ 65535 := by simp [Lit.wf, IntKind.min, IntKind.max, IntKind.bits, IntKind.signed]

/-- A slice of the call's own reads as what it owns. -/
theorem Row.of_own {k : IntKind} {w : World} {base : Nat} {e : TypeId} {a : Option Addr} {n c : Nat} {zs : List Int} (h : w.ownsRow base e 1 (.slice a n c) n (zs.map (Value.int k))) (hw : ∀ n ∈ zs, (Lit.int k n).wf = true) : Row k w.heap.size w a zs := by
  refine ⟨hw, fun hl => ?_⟩
  have hn : zs.length = n := by have := h.1; simpa using this
  obtain ⟨g, cap, hv, _, hlt⟩ := h.form (by omega)
  have hA : a = some ⟨g, 0, none⟩ := by injection hv
  subst hA
  refine ⟨g, 0, rfl, hlt, fun j hj => ?_⟩
  have := h.cells (g := g) rfl j (.int k (zs[j]?.getD 0)) (by simp [hj])
  have e : (⟨g, 0, none⟩ : Addr).add j = ⟨g, 0 + j, none⟩ := by unfold Addr.add; split <;> simp_all
  rwa [e] at this

/-- A slice that was just built. -/
theorem Row.built (k : IntKind) (w : World) (t : TypeId) (zs : List Int) (hw : ∀ n ∈ zs, (Lit.int k n).wf = true) : Row k (w.heap.size + 1) (w.alloc (.cells (zs.map (Value.int k)).toArray t)) (some ⟨w.heap.size, 0, none⟩) zs :=
  ⟨hw, fun _ => ⟨w.heap.size, 0, rfl, by omega, fun j hj => by
    rw [cell_of_row _ _ _ _ _ _ (heap_alloc_new w _)]
    simp [hj]⟩⟩

theorem Row.builtAt (k : IntKind) {w : World} {n : Nat} (hn : w.heap.size = n) (t : TypeId) (zs : List Int) (hw : ∀ n ∈ zs, (Lit.int k n).wf = true) : Row k (n + 1) (w.alloc (.cells (zs.map (Value.int k)).toArray t)) (some ⟨n, 0, none⟩) zs := by
  subst hn
  exact Row.built k w t zs hw
theorem Row.allocS {k : IntKind} {w : World} {a : Option Addr} {zs : List Int} (h : Row k w.heap.size w a zs) (o : Obj) : Row k (w.alloc o).heap.size (w.alloc o) a zs := h.step ((Below.refl _ w).alloc (Nat.le_refl _) o)
theorem Row.size {k : IntKind} {B B' : Nat} {w : World} {a : Option Addr} {zs : List Int} (h : Row k B w a zs) (e : B' = B) : Row k B' w a zs := e ▸ h

/-- 'n & 0xffff + n >> 16' where nothing wraps. -/
theorem carry_bits (n : Int) (h0 : 0 ≤ n) (h1 : n ≤ 4503599627370495) : IntKind.u64.wrap (bits .and .u64 n 65535 + n / 65536) = n % 65536 + n / 65536 := by
  rw [u64_and n 65535 h0 (by omega) (by omega) (by omega)]
  have e : (n.toNat &&& (65535 : Int).toNat : Nat) = n.toNat % 65536 := Nat.and_two_pow_sub_one_eq_mod n.toNat 16
  rw [e, IntWalk.u64_in _ (by omega)]
  omega
/-- A high byte and a low byte, as one word. -/
theorem or_word (a b : Int) (ha : 0 ≤ a) (ha' : a ≤ 255) (hb : 0 ≤ b) (hb' : b ≤ 255) : bits .or .u16 (a * 256) b = 256 * a + b := by
  rw [u16_or (a * 256) b (by omega) (by omega) hb (by omega)]
  have e : ((a * 256).toNat ||| b.toNat : Nat) = a.toNat * 256 + b.toNat := by
    have := Nat.shiftLeft_add_eq_or_of_lt (i := 8) (b := b.toNat) (by omega) a.toNat
    rw [Nat.shiftLeft_eq] at this
    have e2 : (a * 256).toNat = a.toNat * 2 ^ 8 := by omega
    rw [e2]
    omega
  rw [e]
  omega
theorem xor_ones (c : Nat) (h : c < 65536) : (65535 ^^^ c : Nat) = 65535 - c := by
  have e : 65535 - c = 2 ^ 16 - (c + 1) := by omega
  rw [e]
  apply Nat.eq_of_testBit_eq
  intro i
  rw [Nat.testBit_two_pow_sub_succ (by omega), Nat.testBit_xor, show (65535 : Nat) = 2 ^ 16 - 1 from rfl, Nat.testBit_two_pow_sub_one]
  by_cases hi : i < 16
  · simp [hi]
  · have : c.testBit i = false := Nat.testBit_lt_two_pow (Nat.lt_of_lt_of_le h (Nat.pow_le_pow_right (n := 2) (by omega) (show 16 ≤ i by omega)))
    simp [hi, this]
/-- '^x' of a word. -/
theorem not_u16 (c : Int) (h0 : 0 ≤ c) (h1 : c ≤ 65535) : bits .xor .u16 IntKind.u16.max c = 65535 - c := by
  have e : IntKind.u16.max = 65535 := by simp [IntKind.max, IntKind.bits, IntKind.signed]
  rw [e, u16_xor 65535 c (by omega) (by omega) h0 (by omega)]
  have := xor_ones c.toNat (by omega)
  rw [show (65535 : Int).toNat = 65535 from rfl, this]
  omega
end Go.Proofs.Ythgoopdekllanaa

/- What the body of a loop over an iterator must keep, where the iterator reads boxes of its own in every round. Nothing of the program is imported. -/
namespace Go.Proofs.Ythgoopdekllanaa
open Go.RowKit Go.Shelf

/-- What lay below n lies as it lay; and of the boxes bx, those that are cells too. -/
def Keep (n : Nat) (bx : List Nat) (W W' : World) : Prop := Below n W W' ∧ ∀ b ∈ bx, ∀ o : Obj, W.heap[b]? = some o → o.isCells = true → W'.heap[b]? = some o

theorem Keep.refl (n : Nat) (bx : List Nat) (W : World) : Keep n bx W W := ⟨Below.refl _ _, fun _ _ _ h _ => h⟩
theorem keep_t {n : Nat} {bx : List Nat} {A B C : World} (h : Keep n bx A B) (k : Keep n bx B C) : Keep n bx A C :=
  ⟨h.1.trans k.1, fun b hb o ho hc => k.2 b hb o (h.2 b hb o ho hc) hc⟩
theorem keep_b {n : Nat} {bx : List Nat} {w : World} (hn : n ≤ w.heap.size) (W : World) (l : Nat) (o o' : Obj) (hl : w.heap.size ≤ l) (h : W.heap[l]? = some o) (h1 : o.isCells = false) (h2 : o.isWalk = false) : Keep n bx W (W.putObj l o') :=
  ⟨belowK_b hn W l o o' hl h h1 h2, fun b _ x hx hc => by
    have hne : b ≠ l := by
      rintro rfl
      rw [h] at hx
      injection hx with hx
      subst hx
      rw [h1] at hc
      cases hc
    exact (World.putObj_heap_other (fun e => hne (by rw [e]))).trans hx⟩
theorem Keep.boxed {n : Nat} {bx : List Nat} {W W' : World} (h : Keep n bx W W') {b : Nat} (hb : b ∈ bx) {t : TypeId} {v : Value} (hv : Boxed W b t v) : Boxed W' b t v := h.2 b hb _ hv rfl
theorem Keep.setCell {n : Nat} {bx : List Nat} (W : World) {p : Addr} (hp : n ≤ p.block) (hb : p.block ∉ bx) (u : Value) : Keep n bx W (W.setCell p u) :=
  ⟨(Below.refl n W).setCell hp u, fun b hbx o ho _ => (Below.heap_setCell W p u b (fun e => hb (by rw [← e]; exact hbx))).trans ho⟩
/-- A list of numbers f 0, .., f (k - 1). -/
def uptoA {α : Type} (f : Nat → α) (k : Nat) : List α := (List.range k).map f
theorem uptoA_succ {α : Type} (f : Nat → α) (k : Nat) : uptoA f (k + 1) = uptoA f k ++ [f k] := by simp [uptoA, List.range_succ]
theorem uptoA_length {α : Type} (f : Nat → α) (k : Nat) : (uptoA f k).length = k := by simp [uptoA]

/-- Behind an append of one element to a row of the call's own. -/
theorem below_append {B n : Nat} {w wr w1 : World} {v : Value} {o : Obj} {e : TypeId} {xs : List Value} (hnx : Below B w wr) (hB : B ≤ wr.heap.size) (hown : wr.ownsRow B e 1 v n xs) (hgrow : (wr.alloc o).grownBy w1 v.ownBlock) : Below B w w1 :=
  (hnx.alloc hB o).grown hgrow (by simp; omega) (fun j hj => (hown.lt j hj).1)

/-- The call hands back a slice of integers in memory of its own that reads as zs; what lay lies as it lay. -/
def RowRet (k : IntKind) (zs : List Int) (w : World) (e : Ending) (w' : World) : Prop :=
  ∃ a c, e = .returned (.slice a zs.length c) ∧ Row k w'.heap.size w' a zs ∧ Below w.heap.size w w'
end Go.Proofs.Ythgoopdekllanaa

/- From a slice of integers that came in to 'Row'; a slice of the call's own that was just built; an append of a slice that came in. Nothing of the program is imported. -/
namespace Go.Proofs.Ythgoopdekllanaa
open Go.RowKit

/-- A slice of integers that came in: nil, or a row of cap cells, of which the first len are its elements. -/
def IsRow (k : IntKind) (w : World) (a : Option Addr) (len cap : Nat) (zs : List Int) : Prop :=
  (a = none ∧ len = 0 ∧ cap = 0 ∧ zs = []) ∨
  ∃ x, a = some x ∧ len ≤ cap ∧ cap ≤ maxLen ∧ zs.length = cap ∧ (∀ i, i < zs.length → w.cell? (x.add i) = some (.int k (zs.getD i 0))) ∧ ∀ n ∈ zs, (Lit.int k n).wf = true

theorem addr_add (g off j : Nat) : (⟨g, off, none⟩ : Addr).add j = ⟨g, off + j, none⟩ := by
  unfold Addr.add
  split <;> simp_all

theorem IsRow.row {k : IntKind} {w : World} {a : Option Addr} {len cap : Nat} {zs : List Int} (h : IsRow k w a len cap zs) :
    Row k w.heap.size w a (zs.take len) ∧ (zs.take len).length = len ∧ (a = none → cap = 0) ∧ len ≤ cap ∧ cap ≤ maxLen := by
  rcases h with ⟨rfl, rfl, rfl, rfl⟩ | ⟨x, rfl, hl, hm, hz, hc, hw⟩
  · exact ⟨Row.nil _ _ _ _, rfl, fun _ => rfl, Nat.le_refl _, Nat.zero_le _⟩
  · have e : (zs.take len).length = len := by simp; omega
    refine ⟨⟨fun n hn => hw n (List.mem_of_mem_take hn), fun hp => ?_⟩, e, (fun h => by cases h), hl, hm⟩
    rw [e] at hp
    obtain ⟨b, off, spot⟩ := x
    have h0 := hc 0 (by omega)
    have hs : spot = none := by simpa [Addr.add] using World.cell?_spot h0
    subst hs
    refine ⟨b, off, rfl, ?_, fun j hj => ?_⟩
    · rw [addr_add] at h0
      exact block_lt_of_cell h0
    · rw [e] at hj
      have := hc j (by omega)
      rw [addr_add] at this
      rw [this]
      simp [hj]

/-- Cuts. -/
theorem Row.take {k : IntKind} {B : Nat} {w : World} {a : Option Addr} {zs : List Int} (h : Row k B w a zs) (i : Nat) : Row k B w a (zs.take i) := by
  refine ⟨fun n hn => h.1 n (List.mem_of_mem_take hn), fun hp => ?_⟩
  have hl : (zs.take i).length ≤ zs.length := by simp; omega
  obtain ⟨b, off, e, hb, hc⟩ := h.2 (by omega)
  refine ⟨b, off, e, hb, fun j hj => ?_⟩
  have hj' : j < i := by simp at hj; omega
  rw [hc j (by omega)]
  simp [hj']
theorem Row.drop {k : IntKind} {B : Nat} {w : World} {b off : Nat} {zs : List Int} (h : Row k B w (some ⟨b, off, none⟩) zs) (i : Nat) : Row k B w (some ⟨b, off + i, none⟩) (zs.drop i) := by
  refine ⟨fun n hn => h.1 n (List.mem_of_mem_drop hn), fun hp => ?_⟩
  have hl : i < zs.length := by simp at hp; omega
  obtain ⟨b', off', e, hb, hc⟩ := h.2 (by omega)
  injection e with e
  injection e with e1 e2
  subst e1 e2
  refine ⟨b, off + i, rfl, hb, fun j hj => ?_⟩
  have hj' : i + j < zs.length := by simp at hj; omega
  rw [show off + i + j = off + (i + j) by omega, hc (i + j) hj']
  simp

/-- A slice that was just built is the call's own. -/
theorem own_built (w : World) (base : Nat) (hb : base ≤ w.heap.size) (e : TypeId) (xs : List Value) (n : Nat) (hn : xs.length = n) (hl : n ≤ maxLen) : (w.alloc (.cells xs.toArray e)).ownsRow base e 1 (.slice (some ⟨w.heap.size, 0, none⟩) n n) n xs :=
  ⟨by omega, .inr ⟨w.heap.size, n, xs.toArray, rfl, hb, heap_alloc_new w _, Nat.le_refl _, hl, by simp; omega, by
    simp only [Nat.mul_one]
    exact List.take_of_length_le (by omega)⟩⟩

/-- The cells of a row of integers of the call's own; a store into it. -/
theorem own_cell {k : IntKind} {w : World} {base : Nat} {e : TypeId} {g n cap : Nat} {zs : List Int} (h : w.ownsRow base e 1 (.slice (some ⟨g, 0, none⟩) n cap) n (zs.map (Value.int k))) (j : Nat) (hj : j < n) : w.cell? ⟨g, j, none⟩ = some (.int k (zs[j]?.getD 0)) := by
  have hl : zs.length = n := by have := h.1; simpa using this
  rw [h.cellAt j (by omega)]
  simp [show j < zs.length by omega]
theorem own_store {k : IntKind} {w : World} {base : Nat} {e : TypeId} {g n cap : Nat} {zs : List Int} (h : w.ownsRow base e 1 (.slice (some ⟨g, 0, none⟩) n cap) n (zs.map (Value.int k))) (j : Nat) (x : Int) :
    (w.setCell ⟨g, j, none⟩ (.int k x)).ownsRow base e 1 (.slice (some ⟨g, 0, none⟩) n cap) n ((zs.set j x).map (Value.int k)) := by
  have := (h.stored j (.int k x)).1
  rwa [← List.map_set] at this
/-- What is owned stays owned where what lay lies as it lay. -/
theorem own_below {w w' : World} {base : Nat} {e : TypeId} {v : Value} {n : Nat} {xs : List Value} (h : w.ownsRow base e 1 v n xs) (hb : Below w.heap.size w w') : w'.ownsRow base e 1 v n xs := by
  refine h.kept (row := none) ⟨hb.os, hb.tape, hb.output, hb.size, fun i hi _ => hb.block i hi⟩ ?_
  rcases v.ownBlock with _ | x
  · exact .inl rfl
  · exact .inr (by simp)
theorem own_form {w : World} {base : Nat} {e : TypeId} {v : Value} {n : Nat} {xs : List Value} (h : w.ownsRow base e 1 v n xs) (hn : 0 < n) : ∃ g cap, v = .slice (some ⟨g, 0, none⟩) n cap ∧ base ≤ g := by
  obtain ⟨g, cap, hv, hb, _⟩ := h.form hn
  exact ⟨g, cap, hv, hb⟩

/-- 'append(s, x...)', s the call's own, x a slice of integers that reads as zs: nil, empty or not. -/
theorem wpList_append_row {P : Program} (w : World) {ops : Array Oper} {rest : List Oper} {o : Oper} {a : Act} {Q : Exit → Act → World → Prop} (hgd : o.guard = none) (s x : Operand) (t : TypeId)
    (ho : o.op = .call { callee := .builtin .append, args := #[s, x], argTypes := #[t, t] })
    (base : Nat) (e : TypeId) (i : TypeInfo) (z : Value) (bytes : Nat) (ht : P.underlying t = some (.slice e)) (hi : P.info? e = some i) (hz : i.zero = some z)
    (hsize : i.size = 1) (hby : i.bytes = bytes) (hzs : z.cells.size = 1)
    (v : Value) (n : Nat) (xs : List Value) (hs : a.eval s = v) (hown : w.ownsRow base e 1 v n xs)
    (k : IntKind) (B : Nat) (A : Option Addr) (m c : Nat) (zs : List Int) (hx : a.eval x = .slice A m c) (hl : zs.length = m) (hr : Row k B w A zs) (hnil : A = none → c = 0)
    (h63 : n + m ≤ maxLen) (hbytes : (n + m) * bytes ≤ 140737488355328) (hbase : base ≤ w.heap.size)
    (h : ∀ v' w', w'.ownsRow base e 1 v' (n + m) (xs ++ zs.map (Value.int k)) → w.grownBy w' v.ownBlock → wpList P ops Q rest (a.put o.dst v') w') : wpList P ops Q (o :: rest) a w := by
  rcases A with _ | ad
  · have hm : m = 0 := by
      rcases Nat.eq_zero_or_pos m with h0 | h0
      · exact h0
      · obtain ⟨b, off, hA, _⟩ := hr.2 (by omega)
        cases hA
    subst hm
    obtain rfl := hnil rfl
    obtain rfl : zs = [] := List.eq_nil_of_length_eq_zero hl
    refine wpList_append_own_none hgd s x t ho base e i 1 ht hi v n xs hs hown hx ?_
    exact h v w (by simpa using hown) (World.grownBy.refl w _)
  · refine wpList_append_own w hgd s x t ho base e i z 1 bytes ht hi hz hsize hby hzs (by decide) v n xs hs hown ad m c (zs.map (Value.int k)) hx (by simp [hl]) ?_ ?_ h63 hbytes hbase fun v' w' h2 h3 _ => h v' w' h2 h3
    · intro j u hu
      have hj : j < zs.length := by
        rcases Nat.lt_or_ge j zs.length with hj | hj
        · exact hj
        · rw [List.getElem?_eq_none (by simpa using hj)] at hu
          cases hu
      obtain ⟨b, off, hA, _, hc⟩ := hr.2 (by omega)
      injection hA with hA
      subst hA
      rw [addr_add, hc j hj]
      simpa [hj] using hu
    · intro u hu
      simp only [List.mem_map] at hu
      obtain ⟨n, _, rfl⟩ := hu
      rfl
/-- An append in a region that draws its order, guarded or not, onto a row of the call's own. -/
theorem step_append_w {P : Program} (w : World) {ops : Array Oper} {o : Oper} {a : Act} {K : Act → World → Prop} {Q : Exit → Act → World → Prop} {E : Prop} (hw : Region.wanted o (yielded ops a.tmps) = true) (s x : Operand) (t : TypeId)
    (ho : o.op = .call { callee := .builtin .append, args := #[s, x], argTypes := #[t, t] })
    (base : Nat) (e : TypeId) (i : TypeInfo) (z : Value) (bytes : Nat) (ht : P.underlying t = some (.slice e)) (hi : P.info? e = some i) (hz : i.zero = some z)
    (hsize : i.size = 1) (hby : i.bytes = bytes) (hzs : z.cells.size = 1)
    (v : Value) (n : Nat) (xs : List Value) (hs : a.eval s = v) (hown : w.ownsRow base e 1 v n xs)
    (ad : Addr) (m c : Nat) (news : List Value) (hx : a.eval x = .slice (some ad) m c) (hl : news.length = m * 1) (hnews : ∀ j u, news[j]? = some u → w.cell? (ad.add j) = some u) (h1 : ∀ u ∈ news, u.oneCell' = true)
    (hm : 0 < m) (h63 : n + m ≤ maxLen) (hbytes : (n + m) * bytes ≤ 140737488355328) (hbase : base ≤ w.heap.size)
    (h : ∀ g cap w', w'.ownsRow base e 1 (.slice (some ⟨g, 0, none⟩) (n + m) cap) (n + m) (xs ++ news) → w.grownBy w' v.ownBlock → K (a.put o.dst (.slice (some ⟨g, 0, none⟩) (n + m) cap)) w') :
    if Region.wanted o (yielded ops a.tmps) = true then Oper.wp P o a w K Q else E := by
  rw [if_pos hw]
  exact wp_append_lies w s x t ho base e i z 1 bytes ht hi hz hsize hby hzs (by decide) v n xs hs hown ad m c news hx hl hnews h1 hm h63 hbytes hbase _ rfl fun g cap w' h2 h3 _ _ => h g cap w' h2 h3
/-- The one cell of the second of two new blocks, behind a draw. -/
theorem second_new (W : World) (A : Obj) (v : Value) (t : TypeId) : ∀ j u, [v][j]? = some u → (((W.alloc A).alloc (.cells #[v] t)).drew).cell? ((⟨W.heap.size + 1, 0, none⟩ : Addr).add j) = some u := by
  intro j u hu
  have h : ((W.alloc A).alloc (.cells #[v] t)).heap[W.heap.size + 1]? = some (.cells #[v] t (0, 0)) := by
    have := heap_alloc_new (W.alloc A) (.cells #[v] t)
    rwa [World.size_alloc] at this
  rw [addr_add]
  show ((W.alloc A).alloc (.cells #[v] t)).cell? _ = _
  rw [cell_of_row _ _ _ _ _ _ h]
  simpa using hu
end Go.Proofs.Ythgoopdekllanaa

/- Rows of cells that are stored at once: what they hold behind it, and what stays. Nothing of the program is imported. -/
namespace Go.Proofs.Ythgoopdekllanaa
open Go.RowKit Go.Shelf

theorem below_setCells {B : Nat} (b : Nat) (hb : B ≤ b) : ∀ (vs : List Value) (o : Nat) (w w' : World), Below B w w' → Below B w (w'.setCells b o vs)
  | [], _, _, _, h => h
  | v :: r, o, w, _, h => below_setCells b hb r (o + 1) w _ (h.setCell (p := ⟨b, o, none⟩) hb v)
theorem kind_setCells (b : Nat) (t : TypeId) : ∀ (vs : List Value) (o : Nat) (w : World) (cur : Array Value), w.heap[b]? = some (.cells cur t (0, 0)) → ∃ cur' : Array Value, (w.setCells b o vs).heap[b]? = some (.cells cur' t (0, 0))
  | [], _, _, cur, h => ⟨cur, h⟩
  | v :: r, o, w, _, h => kind_setCells b t r (o + 1) _ _ (heap_setCell_same w b o _ t v h)
/-- What a block of cells holds, once all are stored. -/
theorem row_setCells {w : World} {b : Nat} {cur : Array Value} {t : TypeId} (h : w.heap[b]? = some (.cells cur t (0, 0))) (vs : List Value) (hl : vs.length ≤ cur.size) :
    ∃ cur' : Array Value, (w.setCells b 0 vs).heap[b]? = some (.cells cur' t (0, 0)) ∧ ∀ j (hj : j < vs.length), (w.setCells b 0 vs).cell? ⟨b, j, none⟩ = some vs[j] := by
  obtain ⟨cur', hc⟩ := kind_setCells b t vs 0 w cur h
  refine ⟨cur', hc, fun j hj => ?_⟩
  have := World.cell?_setCells_in b vs 0 w (fun j hj => by
    rw [cell_of_row _ _ _ _ _ _ h]
    simp
    omega) j hj
  simpa using this
theorem there_row {w : World} {b : Nat} {cur : Array Value} {t : TypeId} (h : w.heap[b]? = some (.cells cur t (0, 0))) (n : Nat) (hn : n ≤ cur.size) : w.there b 0 n := fun j hj => by
  refine ⟨?_, ?_⟩
  · rw [cell_of_row _ _ _ _ _ _ h]
    simp
    omega
  · simp [World.frozen?, h]
theorem cell_sc {W : World} {b j b' : Nat} {vs : List Value} {v : Value} (hne : b ≠ b') (h : W.cell? ⟨b, j, none⟩ = some v) : (W.setCells b' 0 vs).cell? ⟨b, j, none⟩ = some v := by
  rw [World.cell?_setCells_out b' vs 0 W ⟨b, j, none⟩ (fun e => absurd e hne)]
  exact h
theorem grown_of_below {w w' : World} (h : Below w.heap.size w w') (row : Option Nat) : w.grownBy w' row := ⟨h.os, h.tape, h.output, h.size, fun k hk _ => h.block k hk⟩
/-- What lay below n lies as it lay, and every block of cells of the types ts. -/
def KeepT (n : Nat) (ts : List TypeId) (W W' : World) : Prop := Below n W W' ∧ ∀ (b : Nat) (cur : Array Value) (t : TypeId) (r : Nat × Nat), t ∈ ts → W.heap[b]? = some (.cells cur t r) → W'.heap[b]? = some (.cells cur t r)
theorem KeepT.refl (n : Nat) (ts : List TypeId) (W : World) : KeepT n ts W W := ⟨Below.refl _ _, fun _ _ _ _ _ h => h⟩
theorem keepT_t {n : Nat} {ts : List TypeId} {A B C : World} (h : KeepT n ts A B) (k : KeepT n ts B C) : KeepT n ts A C :=
  ⟨h.1.trans k.1, fun b c t r ht hb => k.2 b c t r ht (h.2 b c t r ht hb)⟩
theorem keepT_b {n : Nat} {ts : List TypeId} {w : World} (hn : n ≤ w.heap.size) (W : World) (l : Nat) (o o' : Obj) (hl : w.heap.size ≤ l) (h : W.heap[l]? = some o) (h1 : o.isCells = false) (h2 : o.isWalk = false) : KeepT n ts W (W.putObj l o') :=
  ⟨belowK_b hn W l o o' hl h h1 h2, fun b cur t r _ hx => by
    have hne : b ≠ l := by
      rintro rfl
      rw [h] at hx
      injection hx with hx
      subst hx
      cases h1
    exact (World.putObj_heap_other (fun e => hne (by rw [e]))).trans hx⟩
/-- Behind an append of one element to a row of the call's own. -/
theorem keepT_append {B n : Nat} {ts : List TypeId} {w wr w1 : World} {v : Value} {o : Obj} {e : TypeId} {xs : List Value} (h : KeepT B ts w wr) (hB : B ≤ wr.heap.size) (hown : wr.ownsRow B e 1 v n xs) (hts : e ∉ ts) (hgrow : (wr.alloc o).grownBy w1 v.ownBlock) : KeepT B ts w w1 :=
  ⟨below_append h.1 hB hown hgrow, fun b cur t r ht hb => by
    have hb2 := h.2 b cur t r ht hb
    have hlt : b < wr.heap.size := (Array.getElem?_eq_some_iff.1 hb2).1
    have hne : some b ≠ v.ownBlock := by
      intro he
      rcases hown.2 with ⟨rfl, _⟩ | ⟨g, cap, cur', rfl, _, hg, _⟩
      · cases he
      · simp only [Value.ownBlock, Option.some.injEq] at he
        subst he
        rw [hg] at hb2
        injection hb2 with hb2
        injection hb2 with _ e2 _
        exact hts (e2 ▸ ht)
    exact (hgrow.block b (by simp; omega) hne).trans ((Below.heap_alloc wr o b hlt).trans hb2)⟩
/-- The same, and whatever is no cells. -/
def KeepA (n : Nat) (ts : List TypeId) (W W' : World) : Prop := KeepT n ts W W' ∧ KeepsOthers W W'
theorem KeepA.refl (n : Nat) (ts : List TypeId) (W : World) : KeepA n ts W W := ⟨KeepT.refl _ _ _, KeepsOthers.refl _⟩
theorem keepA_append {B n : Nat} {ts : List TypeId} {w wr w1 : World} {v : Value} {o : Obj} {e : TypeId} {xs : List Value} (h : KeepA B ts w wr) (hB : B ≤ wr.heap.size) (hown : wr.ownsRow B e 1 v n xs) (hts : e ∉ ts) (hgrow : (wr.alloc o).grownBy w1 v.ownBlock) : KeepA B ts w w1 :=
  ⟨keepT_append h.1 hB hown hts hgrow, h.2.trans ((KeepsOthers.alloc wr o).trans (KeepsOthers.of_grownBy hgrow fun j x hj hx => by
    rcases (hown.alloc o).2 with ⟨rfl, _⟩ | ⟨g, cap, cur', rfl, _, hg, _⟩
    · cases hj
    · simp only [Value.ownBlock, Option.some.injEq] at hj
      subst hj
      rw [hg] at hx
      injection hx with hx
      rw [← hx]
      rfl))⟩
theorem keepT_set {n b : Nat} {ts : List TypeId} {W : World} {t : TypeId} {v : Value} (hb : Boxed W b t v) (hn : n ≤ b) (ht : t ∉ ts) (u : Value) : KeepT n ts W (W.setCell ⟨b, 0, none⟩ u) :=
  ⟨(Below.refl n W).setCell (p := ⟨b, 0, none⟩) hn u, fun c cur t' r ht' hc => by
    have hne : c ≠ b := by
      rintro rfl
      rw [show W.heap[c]? = _ from hb] at hc
      injection hc with hc
      injection hc with _ e _
      exact ht (e ▸ ht')
    exact (Below.heap_setCell W ⟨b, 0, none⟩ u c hne).trans hc⟩
theorem keepT_mono {n m : Nat} {ts : List TypeId} {W W' : World} (h : KeepT n ts W W') (hm : m ≤ n) : KeepT m ts W W' := ⟨h.1.mono hm, h.2⟩
/-- A store below the base leaves a row as it is. -/
theorem own_setBelow {w : World} {base : Nat} {e : TypeId} {v : Value} {n : Nat} {xs : List Value} (h : w.ownsRow base e 1 v n xs) (p : Addr) (hp : p.block < base) (u : Value) : (w.setCell p u).ownsRow base e 1 v n xs := by
  refine ⟨h.1, ?_⟩
  rcases h.2 with h' | ⟨g, cap, cur, h1, h2, h3, h4⟩
  · exact .inl h'
  · exact .inr ⟨g, cap, cur, h1, h2, (Below.heap_setCell w p u g (by omega)).trans h3, h4⟩
/-- What a range's invariant says of a row of the call's own abides. -/
theorem own_abides {W W' : World} {row : Option Nat} {base : Nat} {e : TypeId} {v : Value} {n : Nat} {xs : List Value} (h : W.ownsRow base e 1 v n xs) (hg : W.grownBy W' row) (hr : ∀ r, row = some r → ∃ o : Obj, W.heap[r]? = some o ∧ o.isCells = false) : W'.ownsRow base e 1 v n xs := by
  refine h.kept hg ?_
  rcases h.2 with ⟨rfl, _⟩ | ⟨g, cap, cur, rfl, _, hb, _⟩
  · exact .inl rfl
  · refine .inr fun e => ?_
    obtain ⟨o, ho, hc⟩ := hr g e.symm
    rw [hb] at ho
    injection ho with ho
    subst ho
    cases hc
end Go.Proofs.Ythgoopdekllanaa

/- What the end-around carry and the sum of a list of words answer: 'handfast/sum.carryRound' and 'handfast/sum.Fold' at every list of at most 4000000 words. -/
namespace Go.Proofs.Ythgoopdekllanaa
open Go.RowKit
open SumM

end Go.Proofs.Ythgoopdekllanaa


/- What 'handfast/sum.wordsOf' and the closure that it hands back do: the words of b, one by one, to whatever loop's body keeps b and the closure's own box. -/
namespace Go.Proofs.Ythgoopdekllanaa
open Go.RowKit Go.Shelf
open SumM

attribute [local go_sem] Oper.semAt_some

/-- A word. -/
abbrev W16 := { x : Int // 0 ≤ x ∧ x ≤ 65535 }
def w16 (bs : List Int) (h : In 255 bs) (k : Nat) : W16 := ⟨wordAt bs k, wordAt_in h k⟩

end Go.Proofs.Ythgoopdekllanaa


/- What 'handfast/sum.Sum' and 'handfast/sum.Words' answer, at every list of at most 8000000 bytes. -/
namespace Go.Proofs.Ythgoopdekllanaa
open Go.RowKit Go.Shelf
open SumM

attribute [local go_sem] Oper.semAt_some

/-- The words as plain numbers. -/
def vals (l : List W16) : List Int := l.map (·.1)
theorem vals_snoc (l : List W16) (x : W16) : vals (l ++ [x]) = vals l ++ [x.1] := by simp [vals]
theorem vals_length (l : List W16) : (vals l).length = l.length := by simp [vals]
theorem vals_in (l : List W16) : In 65535 (vals l) := by
  intro x hx
  simp only [vals, List.mem_map] at hx
  obtain ⟨y, _, rfl⟩ := hx
  exact y.2
theorem vals_words (bs : List Int) (hin : In 255 bs) : vals (uptoA (w16 bs hin) ((bs.length + 1) / 2)) = words bs := by
  simp [vals, uptoA, words, upto, w16]

end Go.Proofs.Ythgoopdekllanaa


/- What 'handfast/sum.Words' answers, at every list of at most 8000000 bytes: a slice of its own that holds the words. -/
namespace Go.Proofs.Ythgoopdekllanaa
open Go.RowKit Go.Shelf
open SumM

attribute [local go_sem] Oper.semAt_some

/-- What is owned is a slice value. -/
theorem own_slice {w : World} {base : Nat} {e : TypeId} {v : Value} {n : Nat} {xs : List Value} (h : w.ownsRow base e 1 v n xs) : ∃ a c, v = .slice a n c := by
  rcases h.2 with ⟨rfl, rfl⟩ | ⟨g, cap, cur, rfl, _⟩
  · have := h.1
    simp at this
    subst this
    exact ⟨_, _, rfl⟩
  · exact ⟨_, _, rfl⟩
theorem in_wf16 {l : List Int} (h : In 65535 l) : ∀ n ∈ l, (Lit.int .u16 n).wf = true := fun n hn => wf_u16.2 (h n hn)

end Go.Proofs.Ythgoopdekllanaa


/- General words: slices of bytes of the call's own, stores, boxes, bytes as a string, bytes.Clone and bytes.Equal. No package of the project is named, but type numbers and package bytes. -/
namespace Go.Proofs.Ythgoopdekllanaa
open Go.RowKit Go.Shelf
open SumM

theorem ret_bool {a b : Bool} (h : a = b) : Ending.returned (.bool a) = .returned (.bool b) := by rw [h]

theorem ret_int {k : IntKind} {a b : Int} (h : a = b) : Ending.returned (.int k a) = .returned (.int k b) := by rw [h]

/-- The call hands back a slice of bytes in memory of its own. -/
def OwnRet (zs : List Int) (w : World) (e : Ending) (w' : World) : Prop :=
  ∃ a c, e = .returned (.slice a zs.length c) ∧ w'.ownsRow w.heap.size 5 1 (.slice a zs.length c) zs.length (zs.map (Value.int .u8)) ∧ Below w.heap.size w w'

theorem own_nil {w : World} {base : Nat} {e : TypeId} {a : Option Addr} {n c : Nat} {xs : List Value} (h : w.ownsRow base e 1 (.slice a n c) n xs) : a = none → c = 0 := by
  rintro rfl
  obtain ⟨_, ⟨h1, _⟩ | ⟨g, cap, cur, h1, _⟩⟩ := h
  · injection h1
  · cases h1

theorem bcell {W w1 : World} (hb : Below W.heap.size W w1) : (∀ b o, b < W.heap.size → w1.cell? ⟨b, o, none⟩ = W.cell? ⟨b, o, none⟩) ∧ (∀ b o, b < W.heap.size → w1.frozen? ⟨b, o, none⟩ = W.frozen? ⟨b, o, none⟩) :=
  ⟨fun b o h => hb.cell (p := ⟨b, o, none⟩) h, fun b o h => hb.frozen (p := ⟨b, o, none⟩) h⟩

theorem below_alloc1 {w w1 : World} {o : Obj} (h : Below (w.alloc o).heap.size (w.alloc o) w1) : Below w.heap.size w w1 :=
  ((Below.refl w.heap.size w).alloc (Nat.le_refl _) o).trans (h.mono (by simp))

theorem Try.infoU8 : (Try.prog.info? 5).map (fun i => (i.zero, i.size, i.bytes)) = some (some (.int .u8 0), 1, 1) := by kernel_rfl

theorem below_drew {W w1 : World} (m : Below W.drew.heap.size W.drew w1) : Below W.heap.size W w1 := ⟨m.os, m.tape, m.output, m.size, m.block⟩

theorem below_drew_alloc {W w1 : World} {o : Obj} (m : Below (W.drew.alloc o).heap.size (W.drew.alloc o) w1) : Below W.heap.size W w1 := below_drew (below_alloc1 m)

theorem cell_al {W w1 : World} (LL : Below W.heap.size W w1) {b j : Nat} {v : Value} (hlt : b < W.heap.size) (h : w1.cell? ⟨b, j, none⟩ = some v) {o : Obj} : (w1.alloc o).cell? ⟨b, j, none⟩ = some v :=
  (((Below.refl w1.heap.size w1).alloc (Nat.le_refl _) o).cell (p := ⟨b, j, none⟩) (Nat.lt_of_lt_of_le hlt LL.size)).trans h

theorem new_keep' (W w1 : World) (o : Obj) (m : Below (W.alloc o).drew.heap.size (W.alloc o).drew w1) : w1.heap[W.heap.size]? = some o :=
  (m.block W.heap.size (by simp)).trans (heap_alloc_new W o)

theorem new_keep (W w1 : World) (o : Obj) (m : Below (W.drew.alloc o).heap.size (W.drew.alloc o) w1) : w1.heap[W.heap.size]? = some o :=
  (m.block W.heap.size (by simp)).trans (heap_alloc_new W.drew o)

set_option maxRecDepth 100000 in
theorem Row.str {B : Nat} {w : World} {a : Option Addr} {zs : List Int} (h : Row .u8 B w a zs) (n c : Nat) (hl : zs.length = n) :
    (convert 30 9 (.slice a n c)).run Try.prog w = .ok (.string (strOfNums zs)) w := by
  rcases a with _ | a
  · have : zs = [] := by
      rcases Nat.eq_zero_or_pos zs.length with h0 | h0
      · exact List.eq_nil_of_length_eq_zero h0
      · obtain ⟨b, off, h2, _⟩ := h.2 h0
        cases h2
    subst this
    exact run_convert_bytes_nil w _ 5 Try.underlying30 Try.underlying5 n c _ Try.underlying9
  · rcases Nat.eq_zero_or_pos zs.length with h0 | h0
    · obtain rfl : zs = [] := List.eq_nil_of_length_eq_zero h0
      subst hl
      rw [run_convert_bytes_string w _ _ 5 _ _ c Try.underlying30 Try.underlying5 Try.underlying9]
      exact run_bytesToString w a 0 c [] (run_loadCells_list (P := Try.prog) w a [] (fun j v hj => by simp at hj))
    · obtain ⟨b, off, h2, _, hc⟩ := h.2 h0
      injection h2 with h2
      subst h2
      exact run_convert_bytes_arg w _ 5 Try.underlying30 Try.underlying5 b off n c zs hl (fun i hi => by rw [hc i (by omega)]; simp [List.getD]) _ Try.underlying9

/-- Whether two lists are the same. -/
def eqB (a b : List Int) : Bool := decide (a = b)

theorem eqB_true {a b : List Int} : eqB a b = true ↔ a = b := by simp [eqB]

theorem str_eq {a b : List Int} (ha : In 255 a) (hb : In 255 b) : ((strOfNums a).toList == (strOfNums b).toList) = eqB a b := by
  have e : ∀ l : List Int, (strOfNums l).toList = l.map fun n => UInt8.ofNat n.toNat := fun l => by rw [ByteArray.toList_eq]; rfl
  rw [e, e, Bool.eq_iff_iff, beq_iff_eq, eqB_true]
  refine ⟨fun h => ?_, fun h => by rw [h]⟩
  have hlen : a.length = b.length := by simpa using congrArg List.length h
  apply List.ext_getElem hlen
  intro i h1 h2
  have := congrArg (fun l : List UInt8 => l[i]?) h
  simp [h1, h2] at this
  have x := ha _ (List.getElem_mem h1)
  have y := hb _ (List.getElem_mem h2)
  have t := congrArg UInt8.toNat this
  simp at t
  omega

theorem row_in {B : Nat} {w : World} {a : Option Addr} {zs : List Int} (h : Row .u8 B w a zs) : In 255 zs := fun x hx => wf_u8.1 (h.1 x hx)

theorem size_setCells' (b : Nat) (t : TypeId) : ∀ (vs : List Value) (o : Nat) (w : World) (cur : Array Value), w.heap[b]? = some (.cells cur t (0, 0)) → ∃ cur' : Array Value, (w.setCells b o vs).heap[b]? = some (.cells cur' t (0, 0)) ∧ cur'.size = cur.size
  | [], _, _, cur, h => ⟨cur, h, rfl⟩
  | v :: r, o, w, cur, h => by
    obtain ⟨c, h1, h2⟩ := size_setCells' b t r (o + 1) _ _ (heap_setCell_same w b o _ t v h)
    exact ⟨c, h1, h2.trans (Array.size_setIfInBounds ..)⟩

/-- A block whose cells are all stored. -/
theorem full_setCells {w : World} {b : Nat} {cur : Array Value} {t : TypeId} (h : w.heap[b]? = some (.cells cur t (0, 0))) (vs : List Value) (hl : vs.length = cur.size) : (w.setCells b 0 vs).heap[b]? = some (.cells vs.toArray t (0, 0)) := by
  obtain ⟨c, h1, h2⟩ := size_setCells' b t vs 0 w cur h
  obtain ⟨c', h3, h4⟩ := row_setCells h vs (by omega)
  rw [h1] at h3
  injection h3 with h3
  injection h3 with h3
  subst h3
  rw [h1]
  have : c = vs.toArray := by
    apply Array.ext
    · rw [h2, ← hl, List.size_toArray]
    · intro i hi hi'
      have := h4 i (by simpa using hi')
      rw [cell_of_row _ _ _ _ _ _ h1, Array.getElem?_eq_getElem hi] at this
      have h5 := Option.some.inj this
      simpa using h5
  rw [this]

theorem own_apart {w : World} {base : Nat} {e : TypeId} {v : Value} {n : Nat} {xs : List Value} (h : w.ownsRow base e 1 v n xs) {b : Nat} {cur : Array Value} {t : TypeId} {r : Nat × Nat} (hb : w.heap[b]? = some (.cells cur t r)) (ht : t ≠ e) (j : Nat) (u : Value) : (w.setCell ⟨b, j, none⟩ u).ownsRow base e 1 v n xs := by
  refine ⟨h.1, ?_⟩
  rcases h.2 with h' | ⟨g, cap, cur', h1, h2, h3, h4⟩
  · exact .inl h'
  · refine .inr ⟨g, cap, cur', h1, h2, (Below.heap_setCell w _ u g ?_).trans h3, h4⟩
    intro hgb
    rw [hgb] at h3
    rw [show w.heap[b]? = _ from hb] at h3
    injection h3 with h3
    injection h3 with _ e2 _
    exact ht e2

theorem own_apartN {base : Nat} {e : TypeId} {v : Value} {n : Nat} {xs : List Value} {b : Nat} {t : TypeId} (ht : t ≠ e) : ∀ (vs : List Value) (o : Nat) (w : World) (cur : Array Value), w.ownsRow base e 1 v n xs → w.heap[b]? = some (.cells cur t (0, 0)) → (w.setCells b o vs).ownsRow base e 1 v n xs
  | [], _, _, _, h, _ => h
  | u :: r, o, w, cur, h, hb => own_apartN ht r (o + 1) _ _ (own_apart h hb ht o u) (heap_setCell_same w b o cur t u hb)

theorem wrap_u8 (x : Int) : IntKind.u8.wrap x = x % 256 := by simp [IntKind.wrap, IntKind.bits, IntKind.signed]

theorem wrap_u16 (x : Int) : IntKind.u16.wrap x = x % 65536 := by simp [IntKind.wrap, IntKind.bits, IntKind.signed]

theorem own_ne {w : World} {base : Nat} {e : TypeId} {v : Value} {n : Nat} {xs : List Value} (h : w.ownsRow base e 1 v n xs) {b : Nat} (hb : b < base) : some b ≠ v.ownBlock := fun e => by
  have := (h.lt b e.symm).1
  omega

theorem own_base {w : World} {base b' : Nat} {e : TypeId} {v : Value} {n : Nat} {xs : List Value} (h : w.ownsRow base e 1 v n xs) (hb : b' ≤ base) : w.ownsRow b' e 1 v n xs := by
  refine ⟨h.1, ?_⟩
  rcases h.2 with h' | ⟨g, cap, cur, h1, h2, h3⟩
  · exact .inl h'
  · exact .inr ⟨g, cap, cur, h1, by omega, h3⟩

theorem own_others {w w' : World} {base : Nat} {e : TypeId} {v : Value} {n : Nat} {xs : List Value} (h : w.ownsRow base e 1 v n xs) (hg : w.grownBy w' v.ownBlock) : KeepsOthers w w' :=
  KeepsOthers.of_grownBy hg fun j x hj hx => by
    rcases h.2 with ⟨rfl, _⟩ | ⟨g, cap, cur', rfl, _, hb, _⟩
    · cases hj
    · simp only [Value.ownBlock, Option.some.injEq] at hj
      subst hj
      rw [hb] at hx
      injection hx with hx
      rw [← hx]
      rfl

theorem in_take {m : Int} {l : List Int} (h : In m l) (i : Nat) : In m (l.take i) := fun x hx => h x (List.mem_of_mem_take hx)

theorem in_drop {m : Int} {l : List Int} (h : In m l) (i : Nat) : In m (l.drop i) := fun x hx => h x (List.mem_of_mem_drop hx)

theorem Row.dropIf {k : IntKind} {B : Nat} {w : World} {b off : Nat} {zs : List Int} (h : Row k B w (some ⟨b, off, none⟩) zs) (i : Nat) {c : Prop} [Decidable c] (hc : c → zs.drop i = []) : Row k B w (if c then some ⟨b, off, none⟩ else some ⟨b, off + i, none⟩) (zs.drop i) := by
  split
  · rename_i h'
    rw [hc h']
    exact Row.nil _ _ _ _
  · exact h.drop i

theorem rangeAt_below {W W' : World} {B b o : Nat} {cs : List Value} (h : W.rangeAt b o cs) (hb : Below B W W') (hlt : b < B) : W'.rangeAt b o cs := fun j v hv => (hb.cell (p := ⟨b, o + j, none⟩) hlt).trans (h j v hv)

theorem others_setCells (b : Nat) : ∀ (vs : List Value) (o : Nat) (w : World), KeepsOthers w (w.setCells b o vs)
  | [], _, _ => KeepsOthers.refl _
  | v :: r, o, w => (KeepsOthers.setCell w ⟨b, o, none⟩ v).trans (others_setCells b r (o + 1) _)

theorem rangeAt_row {w : World} {b : Nat} {vs : List Value} {t : TypeId} {fr : Nat × Nat} (h : w.heap[b]? = some (.cells vs.toArray t fr)) : w.rangeAt b 0 vs := fun j v hv => by
  rw [cell_of_row _ _ _ _ _ _ h, Nat.zero_add]
  simpa using hv

theorem i64_and255 (n : Int) : bits .and .i64 n 255 = n % 256 := by
  have h : (BitVec.ofInt 64 255).toNat = 2 ^ 8 - 1 := by decide
  have key : (BitVec.ofInt 64 n &&& BitVec.ofInt 64 255).toNat = (n % ((2 ^ 64 : Nat) : Int)).toNat % 2 ^ 8 := by
    rw [BitVec.toNat_and, BitVec.toNat_ofInt, h, Nat.and_two_pow_sub_one_eq_mod]
  show IntKind.i64.wrap ((BitVec.ofInt 64 n &&& BitVec.ofInt 64 255).toNat : Nat) = n % 256
  rw [key, IntKind.wrap_i64]
  omega

theorem u32_and65535 (n : Int) (h0 : 0 ≤ n) (h1 : n ≤ 4294967295) : bits .and .u32 n 65535 = n % 65536 := by
  rw [u32_and n 65535 h0 (by omega) (by omega) (by omega)]
  have e : (n.toNat &&& (65535 : Int).toNat : Nat) = n.toNat % 65536 := Nat.and_two_pow_sub_one_eq_mod n.toNat 16
  rw [e]
  omega

theorem own_cap {w : World} {base : Nat} {e : TypeId} {a : Option Addr} {n c : Nat} {xs : List Value} (h : w.ownsRow base e 1 (.slice a n c) n xs) : n ≤ c ∧ c ≤ 9223372036854775807 := by
  rcases h.2 with ⟨h1, h2⟩ | ⟨g, cap, cur, h1, _, _, h3, h4, _⟩
  · injection h1 with h1 h2 h3
    omega
  · injection h1 with h1 h2 h5
    unfold maxLen at h4
    omega

theorem in_wf8 {l : List Int} (h : In 255 l) : ∀ n ∈ l, (Lit.int .u8 n).wf = true := fun n hn => wf_u8.2 (h n hn)

theorem own_addr {w : World} {base : Nat} {e : TypeId} {a : Option Addr} {n c : Nat} {xs : List Value} (h : w.ownsRow base e 1 (.slice a n c) n xs) (hn : 0 < n) : ∃ g, a = some ⟨g, 0, none⟩ ∧ base ≤ g ∧ g < w.heap.size := by
  obtain ⟨g, cap, hv, hb, hlt⟩ := h.form hn
  injection hv with h1
  exact ⟨g, h1, hb, hlt⟩

theorem own_builtAt {w : World} {m : Nat} (h : w.heap.size = m) (base : Nat) (hb : base ≤ m) (e : TypeId) (xs : List Value) (n : Nat) (hn : xs.length = n) (hl : n ≤ maxLen) : (w.alloc (.cells xs.toArray e)).ownsRow base e 1 (.slice (some ⟨m, 0, none⟩) n n) n xs := by
  subst h
  exact own_built w base hb e xs n hn hl

/-- A block that lay ahead of an append to a slice that was just built. -/
theorem grow_block {W w3 : World} {b m : Nat} {x o : Obj} (h : W.heap[b]? = some x) (hW : W.heap.size = m) (hlt : b < m) (hg : (W.alloc o).grownBy w3 (Value.slice (some ⟨m, 0, none⟩) 0 0).ownBlock) : w3.heap[b]? = some x :=
  (hg.block b (by simp; omega) (by simp [Value.ownBlock]; omega)).trans ((Below.heap_alloc W o b (by omega)).trans h)

theorem grow_own {W w3 : World} {base m n : Nat} {e : TypeId} {v : Value} {xs : List Value} {o : Obj} (h : W.ownsRow base e 1 v n xs) (hW : W.heap.size = m) (hg : (W.alloc o).grownBy w3 (Value.slice (some ⟨m, 0, none⟩) 0 0).ownBlock) : w3.ownsRow base e 1 v n xs := by
  refine (h.alloc o).kept hg ?_
  rcases hv : v.ownBlock with _ | x
  · exact .inl rfl
  · have := (h.lt x hv).2
    exact .inr (by simp [Value.ownBlock]; omega)

theorem in_two {a b : Int} (ha : 0 ≤ a ∧ a ≤ 255) (hb : 0 ≤ b ∧ b ≤ 255) : ∀ n ∈ [a, b], (Lit.int .u8 n).wf = true := in_wf8 (by
  intro x hx
  simp only [List.mem_cons, List.not_mem_nil, or_false] at hx
  omega)

theorem one_u8 (l : List Int) : ∀ u ∈ l.map (Value.int .u8), u.oneCell' = true := by
  intro u hu
  obtain ⟨n, _, rfl⟩ := List.mem_map.1 hu
  rfl

theorem own_grown {W W' : World} {base b2 g n c m c2 : Nat} {e : TypeId} {xs ys : List Value} {ad : Nat} (h : W.ownsRow b2 e 1 (.slice (some ⟨ad, 0, none⟩) m c2) m ys) (_ho : W.ownsRow base e 1 (.slice (some ⟨g, 0, none⟩) n c) n xs) (hg : W.grownBy W' (Value.slice (some ⟨g, 0, none⟩) n c).ownBlock) (hlt : g < b2) : W'.ownsRow b2 e 1 (.slice (some ⟨ad, 0, none⟩) m c2) m ys := by
  refine h.kept hg (.inr ?_)
  have := (h.lt ad rfl).1
  simp [Value.ownBlock]
  omega

/-- An append in a region that draws its order, of a slice that is there, empty or not. -/
theorem step_append_some {P : Program} (w : World) {ops : Array Oper} {o : Oper} {a : Act} {K : Act → World → Prop} {Q : Exit → Act → World → Prop} {E : Prop} (hw : Region.wanted o (yielded ops a.tmps) = true) (s x : Operand) (t : TypeId)
    (ho : o.op = .call { callee := .builtin .append, args := #[s, x], argTypes := #[t, t] })
    (base : Nat) (e : TypeId) (i : TypeInfo) (z : Value) (bytes : Nat) (ht : P.underlying t = some (.slice e)) (hi : P.info? e = some i) (hz : i.zero = some z)
    (hsize : i.size = 1) (hby : i.bytes = bytes) (hzs : z.cells.size = 1)
    (v : Value) (n : Nat) (xs : List Value) (hs : a.eval s = v) (hown : w.ownsRow base e 1 v n xs)
    (ad : Addr) (m c : Nat) (news : List Value) (hx : a.eval x = .slice (some ad) m c) (hl : news.length = m) (hnews : ∀ j u, news[j]? = some u → w.cell? (ad.add j) = some u) (h1 : ∀ u ∈ news, u.oneCell' = true)
    (h63 : n + m ≤ maxLen) (hbytes : (n + m) * bytes ≤ 140737488355328) (hbase : base ≤ w.heap.size)
    (h : ∀ v' w', w'.ownsRow base e 1 v' (n + m) (xs ++ news) → w.grownBy w' v.ownBlock → K (a.put o.dst v') w') :
    if Region.wanted o (yielded ops a.tmps) = true then Oper.wp P o a w K Q else E := by
  rw [if_pos hw]
  exact wp_append_own w s x t ho base e i z 1 bytes ht hi hz hsize hby hzs (by decide) v n xs hs hown ad m c news hx (by omega) hnews h1 h63 hbytes hbase fun v' w' h2 h3 _ => h v' w' h2 h3

theorem row_cells {k : IntKind} {B : Nat} {w : World} {ad : Addr} {zs : List Int} (h : Row k B w (some ad) zs) : ∀ j u, (zs.map (Value.int k))[j]? = some u → w.cell? (ad.add j) = some u := by
  intro j u hu
  have hj : j < zs.length := by
    rcases Nat.lt_or_ge j zs.length with hj | hj
    · exact hj
    · rw [List.getElem?_eq_none (by simpa using hj)] at hu
      cases hu
  obtain ⟨b, off, hA, _, hc⟩ := h.2 (by omega)
  injection hA with hA
  subst hA
  rw [addr_add, hc j hj]
  simpa [hj] using hu

/-- The slice v holds n bytes of the call's own. -/
def Bytes (W : World) (base : Nat) (v : Value) (n : Nat) : Prop := ∃ zs : List Int, zs.length = n ∧ In 255 zs ∧ W.ownsRow base 5 1 v n (zs.map (Value.int .u8))

theorem Bytes.of {W : World} {base : Nat} {v : Value} {n : Nat} {zs : List Int} (h : W.ownsRow base 5 1 v n (zs.map (Value.int .u8))) (hin : In 255 zs) : Bytes W base v n := ⟨zs, by have := h.1; simpa using this, hin, h⟩

theorem Bytes.below {W W' : World} {base : Nat} {v : Value} {n : Nat} (h : Bytes W base v n) (m : Below W.heap.size W W') : Bytes W' base v n := by
  obtain ⟨zs, h1, h2, h3⟩ := h
  exact ⟨zs, h1, h2, own_below h3 m⟩

/-- A byte stored anywhere. -/
theorem Bytes.store {W : World} {base : Nat} {v : Value} {n : Nat} (h : Bytes W base v n) (g j : Nat) (x : Int) (hx : 0 ≤ x ∧ x ≤ 255) : Bytes (W.setCell ⟨g, j, none⟩ (.int .u8 x)) base v n := by
  obtain ⟨zs, h1, h2, h3⟩ := h
  rcases h3.2 with ⟨rfl, rfl⟩ | ⟨g', cap, cur, rfl, hb, hg, hn, hc, hs, ht⟩
  · obtain rfl : zs = [] := List.eq_nil_of_length_eq_zero h1
    exact ⟨[], rfl, h2, World.ownsRow_nil _ _ _ _⟩
  · by_cases e : g' = g
    · subst e
      exact ⟨zs.set j x, by simpa using h1, in_set h2 _ _ hx, own_store h3 j x⟩
    · exact ⟨zs, h1, h2, h3.1, .inr ⟨g', cap, cur, rfl, hb, (Below.heap_setCell W ⟨g, j, none⟩ _ g' e).trans hg, hn, hc, hs, ht⟩⟩

/-- A box of another type, behind a byte that was stored in a row. -/
theorem box_store {W : World} {base : Nat} {g n c b : Nat} {xs : List Value} {cur : Array Value} {t : TypeId} {fr : Nat × Nat} (h : W.ownsRow base 5 1 (.slice (some ⟨g, 0, none⟩) n c) n xs) (hb : W.heap[b]? = some (.cells cur t fr)) (ht : t ≠ 5) (j : Nat) (x : Value) : (W.setCell ⟨g, j, none⟩ x).heap[b]? = some (.cells cur t fr) := by
  refine (Below.heap_setCell W ⟨g, j, none⟩ x b ?_).trans hb
  rintro rfl
  rcases h.2 with ⟨h1, _⟩ | ⟨g', cap, cur', h1, _, hg, _⟩
  · cases h1
  · injection h1 with h1
    injection h1 with h1
    injection h1 with h1
    subst h1
    rw [show W.heap[b]? = _ from hb] at hg
    injection hg with hg
    injection hg with _ e _
    exact ht e

theorem xor_in (x y : Int) (hx : 0 ≤ x ∧ x ≤ 255) (hy : 0 ≤ y ∧ y ≤ 255) : 0 ≤ bits .xor .u8 x y ∧ bits .xor .u8 x y ≤ 255 := by
  have hl : x.toNat ^^^ y.toNat < 256 := Nat.xor_lt_two_pow (n := 8) (by omega) (by omega)
  rw [u8_xor x y hx.1 (by omega) hy.1 (by omega)]
  omega
/-- What 'make([]T, l, c)' tells, T of one cell: l noughts of the call's own. -/
theorem own_made (w : World) (base : Nat) (hb : base ≤ w.heap.size) (e : TypeId) (z : Value) (l c : Nat) (hlc : l ≤ c) (hc : c ≤ maxLen) (i : TypeInfo) (hs : i.size = 1) (hz : z.cells = #[z]) :
    (w.alloc (.cells (madeCells z.cells (c * i.size)) e)).ownsRow base e 1 (.slice (some ⟨w.heap.size, 0, none⟩) l c) l (List.replicate l z) := by
  refine ⟨by simp, .inr ⟨w.heap.size, c, _, rfl, hb, heap_alloc_new w _, hlc, hc, by rw [size_madeCells, hs], ?_⟩⟩
  rw [hz, hs]
  apply List.ext_getElem
  · simp [madeCells]; omega
  · intro k h1 h2
    simp [madeCells, Nat.mod_one]
theorem wpListIn_make_lc {F : Fence} {n : Nat} {P : Program} (w : World) {ops : Array Oper} {rest : List Oper} {o : Oper} {a : Act} {Q : Exit → Act → World → Prop}
    (hg : o.guard = none) (l c : Operand) (t : TypeId) (hop : o.op = Op.makeSlice t l c)
    (base : Nat) (e : TypeId) (i : TypeInfo) (z : Value) (h1 : P.underlying t = some (.slice e)) (h2 : P.info? e = some i) (h3 : i.zero = some z) (h4 : i.size = 1) (hz : z.cells = #[z])
    (kl kc : IntKind) (L C : Int) (m k : Nat) (hl : a.eval l = .int kl L) (hc : a.eval c = .int kc C) (hL : L = (m : Int)) (hC : C = (k : Int)) (hmk : m ≤ k) (b2 : i.bytes * k ≤ 281474976710656) (b3 : k ≤ maxLen) (b4 : base ≤ w.heap.size)
    (hK : ∀ w', w'.ownsRow base e 1 (.slice (some ⟨w.heap.size, 0, none⟩) m k) m (List.replicate m z) → w.grownBy w' none → wpListIn F n P ops Q rest (a.put o.dst (.slice (some ⟨w.heap.size, 0, none⟩) m k)) w') :
    wpListIn F n P ops Q (o :: rest) a w := by
  refine wpListIn_plain hg fun K hK' => ?_
  subst hL hC
  have hB2 : (i.bytes : Int) * (k : Int) ≤ 281474976710656 := by
    have : ((i.bytes * k : Nat) : Int) ≤ 281474976710656 := by omega
    rwa [Int.natCast_mul] at this
  have hrun := run_make (P := P) w t e i z h1 h2 h3 kl kc (m : Int) (k : Int) (by omega) (by omega) hB2 (by unfold maxLen at b3; omega)
  rw [Int.toNat_natCast, Int.toNat_natCast] at hrun
  unfold Oper.wpIn
  refine ⟨?_, ?_⟩
  · simp [Oper.about, hop]
  · rw [Oper.semAt_plain F _ _ (by rw [hop]; intro c hc'; cases hc')]
    simp [execOp, hop, hl, hc, hrun, Result.andThen]
    exact hK' _ _ (hK _ (own_made w base b4 e z m k hmk b3 i h4 hz) (World.grownBy_alloc w _ _))
/-- A byte stored in a row of the call's own keeps all boxes of other types. -/
theorem keepT_own_store {W : World} {base g n c n₀ : Nat} {e : TypeId} {xs : List Value} {ts : List TypeId} (h : W.ownsRow base e 1 (.slice (some ⟨g, 0, none⟩) n c) n xs) (hn : n₀ ≤ g) (ht : e ∉ ts) (j : Nat) (u : Value) : KeepT n₀ ts W (W.setCell ⟨g, j, none⟩ u) := by
  refine ⟨(Below.refl _ W).setCell (p := ⟨g, j, none⟩) hn u, fun b cur t r hb h2 => ?_⟩
  refine (Below.heap_setCell W ⟨g, j, none⟩ u b ?_).trans h2
  rintro rfl
  rcases h.2 with ⟨h1, _⟩ | ⟨g', cap, cur', h1, _, hg, _⟩
  · cases h1
  · injection h1 with h1
    injection h1 with h1
    injection h1 with h1
    subst h1
    rw [show W.heap[b]? = _ from h2] at hg
    injection hg with hg
    injection hg with _ e' _
    exact ht (e' ▸ hb)
end Go.Proofs.Ythgoopdekllanaa

/- More general words: a bit turned in a byte. -/
namespace Go.Proofs.Ythgoopdekllanaa
open Go.RowKit
open SumM

/-- 'x ^ 1<<s' of a byte. -/
theorem xor_u8_bit (x : Int) (h0 : 0 ≤ x) (h1 : x ≤ 255) (s : Nat) (hs : s < 8) :
    (bits .xor .u8 x ((2 : Int) ^ s % 256) = x + (2 ^ s : Nat) ∨ bits .xor .u8 x ((2 : Int) ^ s % 256) + (2 ^ s : Nat) = x) ∧ 0 ≤ bits .xor .u8 x ((2 : Int) ^ s % 256) ∧ bits .xor .u8 x ((2 : Int) ^ s % 256) ≤ 255 := by
  have hp := pow_le s hs
  have e : (2 : Int) ^ s % 256 = ((2 ^ s : Nat) : Int) := by
    rw [show (2 : Int) ^ s = ((2 ^ s : Nat) : Int) by simp]
    omega
  have hb := xor_bit x.toNat s (by omega) hs
  have hl : x.toNat ^^^ 2 ^ s < 256 := Nat.xor_lt_two_pow (n := 8) (by omega) (by omega)
  rw [e, u8_xor x _ h0 (by omega) (by omega) (by omega), show (((2 ^ s : Nat) : Int)).toNat = 2 ^ s from rfl]
  generalize x.toNat ^^^ 2 ^ s = y at *
  generalize 2 ^ s = d at *
  omega
end Go.Proofs.Ythgoopdekllanaa

/- Numbers of bytes, bytes of numbers, the highest byte first. Nothing of the program is named. -/
namespace Go.Proofs.Ythgoopdekllanaa
open SumM

/-- A number of bytes, the highest one first. -/
def numOf (l : List Int) : Int := l.foldl (fun n v => n * 256 + v) 0

theorem numOf_snoc (l : List Int) (x : Int) : numOf (l ++ [x]) = numOf l * 256 + x := by simp [numOf]

theorem numOf_acc (l : List Int) (h : In 255 l) : ∀ acc : Int, 0 ≤ acc → 0 ≤ l.foldl (fun n v => n * 256 + v) acc ∧ l.foldl (fun n v => n * 256 + v) acc < (acc + 1) * (256 : Int) ^ l.length := by
  induction l with
  | nil => intro acc h0; simp; omega
  | cons x r ih =>
    intro acc h0
    have hx := h x (by simp)
    have := ih (fun y hy => h y (by simp [hy])) (acc * 256 + x) (by omega)
    refine ⟨this.1, Int.lt_of_lt_of_le this.2 ?_⟩
    rw [List.length_cons, Int.pow_succ, Int.mul_comm ((256 : Int) ^ r.length) 256, ← Int.mul_assoc]
    exact Int.mul_le_mul_of_nonneg_right (by omega) (Int.pow_nonneg (by decide))

theorem numOf_in (l : List Int) (h : In 255 l) : 0 ≤ numOf l ∧ numOf l < (256 : Int) ^ l.length := by
  have := numOf_acc l h 0 (by decide)
  simpa [numOf] using this

/-- The bytes of a number, the highest one first. -/
def be (width : Nat) (n : Int) : List Int := upto (fun i => n / 256 ^ (width - 1 - i) % 256) width

theorem be_length (k : Nat) (n : Int) : (be k n).length = k := by simp [be, upto]

theorem be_in (k : Nat) (n : Int) : In 255 (be k n) := by
  intro x hx
  simp only [be, upto, List.mem_map] at hx
  obtain ⟨i, _, rfl⟩ := hx
  omega
end Go.Proofs.Ythgoopdekllanaa

/- What 'handfast/sum.Check', 'Right' and 'Change' answer. -/
namespace Go.Proofs.Ythgoopdekllanaa
open Go.RowKit
open SumM

end Go.Proofs.Ythgoopdekllanaa


/- What the document's own answers for layer 1 (handfastref01) are: Words, Fold, Sum, Check, Right, Change and Same. -/
namespace Go.Proofs.Ythgoopdekllanaa
open Go.RowKit
open SumM

end Go.Proofs.Ythgoopdekllanaa


/- The equality of two tuples, as one Bool. -/
namespace Go.Proofs.Ythgoopdekllanaa
open Go.RowKit Go.Shelf
open SumM

/-- Whether two tuples are the same. -/
def eqU (ts td tp tq ts' td' tp' tq' : Int) : Bool := decide (ts = ts' ∧ td = td' ∧ tp = tp' ∧ tq = tq')

end Go.Proofs.Ythgoopdekllanaa


/- A tuple's numbers, its cells. -/
namespace Go.Proofs.Ythgoopdekllanaa
open Go.RowKit Go.Shelf
open SumM

end Go.Proofs.Ythgoopdekllanaa


/- Arguments that came in, opened: slices of bytes. -/
namespace Go.Proofs.Ythgoopdekllanaa
open Go.RowKit Go.Joins Go.ChangeShapes Go.WideShapes Go.ChangeAt Go.Deep
open SumM

theorem wf_u32 {n : Int} : (Lit.int .u32 n).wf = true ↔ 0 ≤ n ∧ n ≤ 4294967295 := by simp [Lit.wf, IntKind.min, IntKind.max, IntKind.bits, IntKind.signed]
section
variable {H : Type} {enc : TypeId × Value → H} {w : World} {base : Nat} {spare : Nat → Bool} {held : Bool}
theorem open_bytes {fuel : Nat} {v : Value} {x : DataW H × List MemPlace} (hsp : ∀ b, spare b = true) (hf : DataW.trod enc Try.prog w base spare held fuel 30 [v] = some x) :
    ∃ (a : Option Addr) (n c : Nat) (zs : List Int), v = .slice a n c ∧ Row .u8 w.heap.size w a zs ∧ zs.length = n ∧ (a = none → c = 0) ∧ n ≤ c ∧ c ≤ maxLen := by
  rcases open_ints Try.underlying30 Try.underlying5 (by kernel_rfl) hf with ⟨hcs, _⟩ | ⟨a, l, c, zs, hcs, _, hl, hm, hz, _, hcell, hwz⟩
  · obtain rfl : v = .slice none 0 0 := by simpa using hcs
    exact ⟨none, 0, 0, [], rfl, Row.nil _ _ _ _, rfl, fun _ => rfl, Nat.le_refl _, Nat.zero_le _⟩
  · obtain rfl : v = .slice (some a) l c := by simpa using hcs
    have hr : IsRow .u8 w (some a) l c zs := .inr ⟨a, rfl, hl, hm, by simpa [hsp] using hz, hcell, hwz⟩
    obtain ⟨h1, h2, h3, h4, h5⟩ := hr.row
    exact ⟨some a, l, c, _, rfl, h1, h2, h3, h4, h5⟩
end
end Go.Proofs.Ythgoopdekllanaa

/- A tuple that came in, opened. -/
namespace Go.Proofs.Ythgoopdekllanaa
open Go.RowKit Go.Joins Go.ChangeShapes Go.WideShapes Go.ChangeAt Go.Deep
open SumM

section
variable {H : Type} {enc : TypeId × Value → H} {w : World} {base : Nat} {spare : Nat → Bool} {held : Bool}


end
end Go.Proofs.Ythgoopdekllanaa
