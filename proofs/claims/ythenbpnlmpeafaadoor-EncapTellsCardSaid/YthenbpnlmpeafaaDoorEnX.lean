/- handfastlaw07: nodes; what Take tells, in one form. -/
import Derived.Test.YthenbpnlmpeafaaDoorEnM
import Derived.Deep.DeepCutAuto
import Derived.Deep.RegionHeldLaw
import Derived.Deep.DrawnRows
namespace Go.Proofs.YthenbpnlmpeafaaDoor
open Go.RowKit Go.Shelf
open SumM

set_option maxRecDepth 100000 in
theorem run_neD (nk ni : Int) (W : World) : (Go.binOp .neq 23 (.agg #[.int .u8 nk, .int .i64 ni]) (.agg #[.int .u8 nk, .int .i64 ni])).run Tryd.prog W = .ok (.bool false) W := by
  go_simp
theorem nrow_off {B : Nat} {w : World} {b off : Nat} {us : List Nod} (h : SRow nodC 2 B w (some ⟨b, off, none⟩) us) (j : Nat) (hj : j < us.length) :
    w.cell? ⟨b, off + j * 2, none⟩ = some (.int .u8 us[j].1) ∧ w.cell? ⟨b, off + j * 2 + 1, none⟩ = some (.int .i64 us[j].2) := by
  obtain ⟨b', off', e, _, hc⟩ := h (by omega)
  cases e
  have h0 := hc j hj 0 _ rfl
  have h1 := hc j hj 1 _ rfl
  simp only [Nat.add_zero] at h0
  exact ⟨h0, h1⟩

set_option maxRecDepth 100000 in
set_option maxHeartbeats 4000000 in
theorem law7Nodes_any (A A' : Option Addr) (c c' : Nat) (w : World) (h : SRow nodC 2 w.heap.size w A allN) (h' : SRow nodC 2 w.heap.size w A' allN) :
    Calls Tryd.prog 19 #[.slice A 10 c, .slice A' 10 c'] w fun e w' => e = .returned (.bool true) ∧ Below w.heap.size w w' := by
  obtain ⟨b, off, rfl, hb, _⟩ := h (by decide)
  obtain ⟨b', off', rfl, hb', _⟩ := h' (by decide)
  have HR := Lib.hid h
  have HR' := Lib.hid h'
  clear h h' hb hb'
  go_enter Tryd.func19, Tryd.ntmps19
  go_wp2
  go_loopw [5] (fun i wr => ∃ k : Nat, k ≤ 10 ∧ i = .int .i64 k ∧ ∃ n, wr = w.drewN n) (fun i _ => 10 - (intOf i).toNat)
  case atStart => exact ⟨0, by omega, rfl, 0, rfl⟩
  case round =>
    obtain ⟨k, hk, rfl, n, rfl⟩ := hrel
    by_cases hlt : k < 10
    · have hka : k < allN.length := hlt
      obtain ⟨x0, x1⟩ := nrow_off HR.out k hka
      obtain ⟨y0, y1⟩ := nrow_off HR'.out k hka
      generalize allN[k] = u at *
      obtain ⟨u1, u2⟩ := u
      simp only at x0 x1 y0 y1
      have E1 := fun W => run_neD u1 u2 W
      have hk12 : (k : Int) < 10 := by omega
      go_wp2
      go_quiet (fail)
      go_wp2
      go_roundw
      case rel => exact ⟨k + 1, by omega, by go_num, _, rfl⟩
      case measure => simp [intOf]; omega
    · obtain rfl : k = 10 := by omega
      clear hlt
      go_wp2
      go_ret
      exact ⟨rfl, below_dr (Below.refl _ _) n⟩

/-- What Take tells. -/
def etT (bs : List Int) : Int × Int × Int × Int × Int × Int × Int × Int × Int × Int :=
  if etOk bs = true then ((nodV (segAt bs 8)).1, (nodV (segAt bs 8)).2, (nodV (segAt bs 9)).1, (nodV (segAt bs 9)).2, (otV (etOpt bs)).1, (otV (etOpt bs)).2.1, (otV (etOpt bs)).2.2.1, (otV (etOpt bs)).2.2.2.1, (otV (etOpt bs)).2.2.2.2.1, (otV (etOpt bs)).2.2.2.2.2) else (0, 0, 0, 0, 0, 0, 0, 0, 0, 0)
def etS (bs : List Int) : List Int := if etOk bs = true then etIn bs else []
def etY (bs : List Int) : Int := if etOk bs = true then 0 else 13
def EtAs (bs : List Int) (w : World) (e : Ending) (w' : World) : Prop :=
  ∃ A c, e = .returned (.tuple #[.agg #[.int .u8 (etT bs).1, .int .i64 (etT bs).2.1, .int .u8 (etT bs).2.2.1, .int .i64 (etT bs).2.2.2.1, .int .u8 (etT bs).2.2.2.2.1, .int .u8 (etT bs).2.2.2.2.2.1, .int .i64 (etT bs).2.2.2.2.2.2.1, .int .i64 (etT bs).2.2.2.2.2.2.2.1, .int .i64 (etT bs).2.2.2.2.2.2.2.2.1, .int .i64 (etT bs).2.2.2.2.2.2.2.2.2, .slice A (etS bs).length c], .int .u8 (etY bs)]) ∧
    Row .u8 w'.heap.size w' A (etS bs) ∧ Below w.heap.size w w'
theorem et_as {bs : List Int} (hin : In 255 bs) {w w' : World} {e : Ending} (h : EnTakeRet bs w e w') : EtAs bs w e w' := by
  rcases h with ⟨h0, rfl, m⟩ | ⟨h1, A, c, rfl, ho, m⟩
  · have e1 : etT bs = (0, 0, 0, 0, 0, 0, 0, 0, 0, 0) := by unfold etT; rw [h0]; rfl
    have e2 : etS bs = [] := by unfold etS; rw [h0]; rfl
    have e3 : etY bs = 13 := by unfold etY; rw [h0]; rfl
    unfold EtAs
    rw [e1, e2, e3]
    exact ⟨none, 0, rfl, Row.nil _ _ _ _, m⟩
  · have e1 : etT bs = ((nodV (segAt bs 8)).1, (nodV (segAt bs 8)).2, (nodV (segAt bs 9)).1, (nodV (segAt bs 9)).2, (otV (etOpt bs)).1, (otV (etOpt bs)).2.1, (otV (etOpt bs)).2.2.1, (otV (etOpt bs)).2.2.2.1, (otV (etOpt bs)).2.2.2.2.1, (otV (etOpt bs)).2.2.2.2.2) := by unfold etT; rw [if_pos h1]
    have e2 : etS bs = etIn bs := by unfold etS; rw [if_pos h1]
    have e3 : etY bs = 0 := by unfold etY; rw [if_pos h1]
    unfold EtAs
    rw [e1, e2, e3]
    exact ⟨A, c, rfl, Row.of_own ho (in_wf8 (in_drop hin (hlOf bs))), m⟩
end Go.Proofs.YthenbpnlmpeafaaDoor
