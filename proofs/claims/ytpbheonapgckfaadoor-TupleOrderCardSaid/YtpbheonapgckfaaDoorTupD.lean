/- The document's own answers on tuples: All (slices of tuples). -/
import Derived.Test.YtpbheonapgckfaaDoorTupC
namespace Go.Proofs.YtpbheonapgckfaaDoor
open Go.RowKit Go.Shelf
open SumM

/-- A tuple, as numbers. -/
abbrev Tup := Int × Int × Int × Int
def Tup.ok (u : Tup) : Prop := UNums u.1 u.2.1 u.2.2.1 u.2.2.2
abbrev tup0 : Tup := (0, 0, 0, 0)
/-- A slice of tuples reads so, in memory below B. -/
def TRow (B : Nat) (w : World) (a : Option Addr) (us : List Tup) : Prop :=
  (∀ u ∈ us, Tup.ok u) ∧
  (0 < us.length → ∃ b off, a = some ⟨b, off, none⟩ ∧ b < B ∧ ∀ j, j < us.length →
    w.cell? ⟨b, off + j * 4, none⟩ = some (.int .u32 (us[j]?.getD tup0).1) ∧ w.cell? ⟨b, off + j * 4 + 1, none⟩ = some (.int .u32 (us[j]?.getD tup0).2.1) ∧
    w.cell? ⟨b, off + j * 4 + 2, none⟩ = some (.int .u16 (us[j]?.getD tup0).2.2.1) ∧ w.cell? ⟨b, off + j * 4 + 3, none⟩ = some (.int .u16 (us[j]?.getD tup0).2.2.2))
theorem TRow.below {B : Nat} {w w' : World} {a : Option Addr} {us : List Tup} (h : TRow B w a us) (hb : Below B w w') : TRow B w' a us :=
  ⟨h.1, fun hl => by
    obtain ⟨b, off, e, hB, hc⟩ := h.2 hl
    exact ⟨b, off, e, hB, fun j hj => ⟨(hb.cell hB).trans (hc j hj).1, (hb.cell hB).trans (hc j hj).2.1, (hb.cell hB).trans (hc j hj).2.2.1, (hb.cell hB).trans (hc j hj).2.2.2⟩⟩⟩

set_option maxRecDepth 100000 in
set_option maxHeartbeats 2000000 in
theorem r4All_any (a b : Option Addr) (len cap cap' B : Nat) (us : List Tup) (w : World) (h : TRow B w a us) (h' : TRow B w b us) (hl : us.length = len) (hs : len ≤ 1000) :
    Calls Tryd.prog 21 #[.slice a len cap, .slice b len cap'] w fun e w' => e = .returned (.bool true) ∧ ∃ n, w' = w.drewN n := by
  have HL := Lib.hid hl
  clear hl
  have hne : ((len : Int) != (len : Int)) = false := by simp
  go_enter Tryd.func21, Tryd.ntmps21
  go_wp2
  go_loopw [5] (fun i wr => ∃ k : Nat, k ≤ len ∧ i = .int .i64 k ∧ ∃ n, wr = w.drewN n) (fun i _ => len - (intOf i).toNat)
  case atStart => exact ⟨0, Nat.zero_le _, rfl, 0, rfl⟩
  case round =>
    obtain ⟨k, hk, rfl, n, rfl⟩ := hrel
    by_cases hlt : k < len
    · obtain ⟨b1, off1, rfl, _, hc1⟩ := h.2 (by rw [HL.out]; omega)
      obtain ⟨b2, off2, rfl, _, hc2⟩ := h'.2 (by rw [HL.out]; omega)
      obtain ⟨x0, x1, x2, x3⟩ := hc1 k (by rw [HL.out]; omega)
      obtain ⟨y0, y1, y2, y3⟩ := hc2 k (by rw [HL.out]; omega)
      clear hc1 hc2 h h'
      have hk0 : (0 : Int) ≤ (k : Int) := by omega
      have hk12 : (k : Int) < (len : Int) := by omega
      generalize us[k]?.getD tup0 = u at *
      obtain ⟨u0, u1, u2, u3⟩ := u
      go_wp2
      go_quiet (fail)
      go_wp2
      go_roundw
      case rel => exact ⟨k + 1, by omega, by go_num, _, rfl⟩
      case measure => simp [intOf]; omega
    · obtain rfl : k = len := by omega
      go_wp2
      go_ret
      exact ⟨rfl, n, rfl⟩
end Go.Proofs.YtpbheonapgckfaaDoor
