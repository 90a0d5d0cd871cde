/- The document's look at two lists of numbers; what many ways hand on to. -/
import Derived.Test.YtanbkbppahgbgaaTbA
namespace Go.Proofs.Ytanbkbppahgbgaa
open Go.RowKit Go.Shelf
open SumM

set_option maxRecDepth 100000 in
set_option maxHeartbeats 400000 in
/-- Ints, of two lists that are the same. -/
theorem r10Ints_any (a b : Option Addr) (len cap cap' B : Nat) (zs : List Int) (w : World) (h : Row .i64 B w a zs) (h' : Row .i64 B w b zs) (hl : zs.length = len) (hs : len ≤ 4000000) :
    Calls Try.prog 20 #[.slice a len cap, .slice b len cap'] w fun e w' => e = .returned (.bool true) ∧ ∃ n, w' = w.drewN n := by
  have HL := Lib.hid hl
  clear hl
  have hne : ((len : Int) != (len : Int)) = false := by simp
  go_enter Try.func20, Try.ntmps20
  go_wp2
  go_loopw [5] (fun i wr => ∃ k : Nat, k ≤ len ∧ i = .int .i64 k ∧ ∃ n, wr = w.drewN n) (fun i _ => len - (intOf i).toNat)
  case atStart => exact ⟨0, Nat.zero_le _, rfl, 0, rfl⟩
  case round =>
    obtain ⟨k, hk, rfl, n, rfl⟩ := hrel
    by_cases hlt : k < len
    · obtain ⟨b1, off1, rfl, _, hc1⟩ := h.2 (by rw [HL.out]; omega)
      obtain ⟨b2, off2, rfl, _, hc2⟩ := h'.2 (by rw [HL.out]; omega)
      have hcx := hc1 k (by rw [HL.out]; omega)
      have hcy := hc2 k (by rw [HL.out]; omega)
      clear hc1 hc2 h h'
      go_wp2
      go_quiet (fail)
      go_wp2
      go_roundw
      case rel => exact ⟨k + 1, by omega, by go_num, _, rfl⟩
      case measure => simp [intOf]; omega
    · obtain rfl : k = len := by omega
      go_wp2
      go_ret
      exact ⟨rfl, n, rfl⟩

theorem tints_any (a b : Option Addr) (len cap cap' : Nat) (zs : List Int) (w : World) (h : Row .i64 w.heap.size w a zs) (h' : Row .i64 w.heap.size w b zs) (hl : zs.length = len) (hs : len ≤ 4000000) :
    Calls Try.prog 20 #[.slice a len cap, .slice b len cap'] w fun e w' => e = .returned (.bool true) ∧ Below w.heap.size w w' :=
  (r10Ints_any a b len cap cap' _ zs w h h' hl hs).mono fun _ _ ⟨he, n, hw⟩ => ⟨he, by rw [hw]; exact ⟨rfl, rfl, rfl, Nat.le_refl _, fun _ _ => rfl⟩⟩
theorem lit3 (w : World) : Row .i64 (w.alloc (.cells #[.int .i64 3] 3)).heap.size (w.alloc (.cells #[.int .i64 3] 3)) (some ⟨w.heap.size, 0, none⟩) [3] := by
  have := Row.built .i64 w 3 [3] (fun n hn => by rw [List.mem_singleton.1 hn]; exact wf_i64.2 ⟨by omega, by omega⟩)
  rw [World.size_alloc]
  exact this
/-- A table's box, made and filled. -/
theorem boxT_new (w1 : World) (S : Nat → Int) : NB w1.heap.size 26 65 S ((w1.alloc (.cells (numL 65 zeroT).toArray 26)).setCells w1.heap.size 0 (numL 65 (S))) ∧ Below w1.heap.size w1 ((w1.alloc (.cells (numL 65 zeroT).toArray 26)).setCells w1.heap.size 0 (numL 65 (S))) :=
  ⟨nb_full (show NB w1.heap.size 26 65 zeroT (w1.alloc (.cells (numL 65 zeroT).toArray 26)) from heap_alloc_new w1 _) S, below_setCells w1.heap.size (Nat.le_refl _) (numL 65 S) 0 w1 _ ((Below.refl _ w1).alloc (Nat.le_refl _) _)⟩
theorem st_new (w1 : World) (S : Nat → Int) : (stS 26 (.pointer (some ⟨w1.heap.size, 0, none⟩)) (tabV S)).run Try.prog (w1.alloc (.cells (numL 65 zeroT).toArray 26)) = .ok () ((w1.alloc (.cells (numL 65 zeroT).toArray 26)).setCells w1.heap.size 0 (numL 65 (S))) :=
  st_tab (show NB w1.heap.size 26 65 zeroT (w1.alloc (.cells (numL 65 zeroT).toArray 26)) from heap_alloc_new w1 _) S

/-- What many ways hand on to is shown once. -/
theorem shareT {T G : Prop} (a : Hid T → G) (b : T) : G := a (Lib.hid b)
end Go.Proofs.Ytanbkbppahgbgaa
