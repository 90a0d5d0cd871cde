/- What the document's 'Great', 'Right', 'Size' and 'Own' of heads answer. -/
import Derived.Test.YtjofijigfkkidaaDoorIpC
namespace Go.Proofs.YtjofijigfkkidaaDoor
open Go.RowKit Go.Shelf
open SumM

/-- Whether a head is too great to be asked. -/
def greatB (on pn : Nat) : Bool := decide (100 < on ∨ 300 < pn)

set_option maxRecDepth 100000 in
set_option maxHeartbeats 1000000 in
theorem refGreat_any (sv nu fl ho pr sr ds : Int) (oa : Option Addr) (on oc : Nat) (pa : Option Addr) (pn pc : Nat) (w : World) (ho' : on ≤ 9223372036854775807) (hp' : pn ≤ 9223372036854775807) :
    Calls Tryd.prog 8 #[.agg #[.int .u8 sv, .int .u16 nu, .int .u16 fl, .int .u8 ho, .int .u8 pr, .int .u32 sr, .int .u32 ds, .slice oa on oc, .slice pa pn pc]] w fun e w' => e = .returned (.bool (greatB on pn)) ∧ Below w.heap.size w w' := by
  have HB := Lib.hid (fun o : Obj => (Below.refl w.heap.size w).alloc (Nat.le_refl _) o)
  by_cases h1 : 100 < on
  · have e1 : decide ((100 : Int) < (on : Int)) = true := decide_eq_true (by omega)
    have HR := Lib.hid (show true = greatB on pn from (decide_eq_true (.inl h1)).symm)
    go_enter Tryd.func8, Tryd.ntmps8
    go_wp2
    go_ret
    exact ⟨ret_bool HR.out, HB.out _⟩
  · have e1 : decide ((100 : Int) < (on : Int)) = false := decide_eq_false (by omega)
    by_cases h2 : 300 < pn
    · have e2 : decide ((300 : Int) < (pn : Int)) = true := decide_eq_true (by omega)
      have HR := Lib.hid (show true = greatB on pn from (decide_eq_true (.inr h2)).symm)
      go_enter Tryd.func8, Tryd.ntmps8
      go_wp2
      go_ret
      exact ⟨ret_bool HR.out, HB.out _⟩
    · have e2 : decide ((300 : Int) < (pn : Int)) = false := decide_eq_false (by omega)
      have HR := Lib.hid (show false = greatB on pn from (decide_eq_false (by omega)).symm)
      go_enter Tryd.func8, Tryd.ntmps8
      go_wp2
      go_ret
      exact ⟨ret_bool HR.out, HB.out _⟩

set_option maxRecDepth 100000 in
set_option maxHeartbeats 1000000 in
theorem refRight_any (sv nu fl ho pr sr ds : Int) (oa : Option Addr) (on oc : Nat) (pa : Option Addr) (pn pc : Nat) (w : World) (ho' : on ≤ 281474976710656) (hp' : pn ≤ 281474976710656) :
    Calls Tryd.prog 15 #[.agg #[.int .u8 sv, .int .u16 nu, .int .u16 fl, .int .u8 ho, .int .u8 pr, .int .u32 sr, .int .u32 ds, .slice oa on oc, .slice pa pn pc]] w fun e w' => e = .returned (.bool (rightB fl on pn)) ∧ Below w.heap.size w w' := by
  have HB := Lib.hid (fun o : Obj => (Below.refl w.heap.size w).alloc (Nat.le_refl _) o)
  have NO := fun h : ¬ ((fl = 0 ∨ fl = 16384) ∧ on ≤ 40 ∧ on % 4 = 0 ∧ 20 + on + pn ≤ 65535) => Lib.hid (show false = rightB fl on pn from (decide_eq_false h).symm)
  have YES := fun h : (fl = 0 ∨ fl = 16384) ∧ on ≤ 40 ∧ on % 4 = 0 ∧ 20 + on + pn ≤ 65535 => Lib.hid (show true = rightB fl on pn from (decide_eq_true h).symm)
  have NO := Lib.hid NO
  have YES := Lib.hid YES
  by_cases h1 : fl = 0 ∨ fl = 16384
  · by_cases h2 : on ≤ 40
    · have e2 : decide ((on : Int) ≤ 40) = true := decide_eq_true (by omega)
      by_cases h3 : on % 4 = 0
      · have e3 : ((on : Int) % 4 == 0) = true := by simp; omega
        by_cases h4 : 20 + on + pn ≤ 65535
        · have e4 : decide (20 + (on : Int) + (pn : Int) ≤ 65535) = true := decide_eq_true (by omega)
          have HR := YES.out ⟨h1, h2, h3, h4⟩
          rcases h1 with rfl | rfl
          all_goals
            go_enter Tryd.func15, Tryd.ntmps15
            go_wp2
            go_ret
            exact ⟨ret_bool HR.out, HB.out _⟩
        · have e4 : decide (20 + (on : Int) + (pn : Int) ≤ 65535) = false := decide_eq_false (by omega)
          have HR := NO.out (fun h => h4 h.2.2.2)
          rcases h1 with rfl | rfl
          all_goals
            go_enter Tryd.func15, Tryd.ntmps15
            go_wp2
            go_ret
            exact ⟨ret_bool HR.out, HB.out _⟩
      · have e3 : ((on : Int) % 4 == 0) = false := by simp; omega
        have HR := NO.out (fun h => h3 h.2.2.1)
        rcases h1 with rfl | rfl
        all_goals
          go_enter Tryd.func15, Tryd.ntmps15
          go_wp2
          go_ret
          exact ⟨ret_bool HR.out, HB.out _⟩
    · have e2 : decide ((on : Int) ≤ 40) = false := decide_eq_false (by omega)
      have HR := NO.out (fun h => h2 h.2.1)
      rcases h1 with rfl | rfl
      all_goals
        go_enter Tryd.func15, Tryd.ntmps15
        go_wp2
        go_ret
        exact ⟨ret_bool HR.out, HB.out _⟩
  · have HR := NO.out (fun h => h1 h.1)
    have a1 : (fl == 0) = false := by simp; omega
    have a2 : (fl == 16384) = false := by simp; omega
    clear h1
    go_enter Tryd.func15, Tryd.ntmps15
    go_wp2
    go_ret
    exact ⟨ret_bool HR.out, HB.out _⟩
end Go.Proofs.YtjofijigfkkidaaDoor
