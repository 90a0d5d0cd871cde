/- Bytes as a string; bytes.Equal. -/
import Derived.Test.YtjofijigfkkidaaDoorIpA
import Derived.Laws.BytesArg
namespace Go.Proofs.YtjofijigfkkidaaDoor
open Go.RowKit
open SumM

theorem Row.str {B : Nat} {w : World} {a : Option Addr} {zs : List Int} (h : Row .u8 B w a zs) (n c : Nat) (hl : zs.length = n) :
    (convert 24 9 (.slice a n c)).run Tryd.prog w = .ok (.string (strOfNums zs)) w := by
  rcases a with _ | a
  · have : zs = [] := by
      rcases Nat.eq_zero_or_pos zs.length with h0 | h0
      · exact List.eq_nil_of_length_eq_zero h0
      · obtain ⟨b, off, h2, _⟩ := h.2 h0
        cases h2
    subst this
    exact run_convert_bytes_nil w _ 5 Tryd.underlying24 Tryd.underlying5 n c _ Tryd.underlying9
  · rcases Nat.eq_zero_or_pos zs.length with h0 | h0
    · obtain rfl : zs = [] := List.eq_nil_of_length_eq_zero h0
      subst hl
      rw [run_convert_bytes_string w _ _ 5 _ _ c Tryd.underlying24 Tryd.underlying5 Tryd.underlying9]
      exact run_bytesToString w a 0 c [] (run_loadCells_list (P := Tryd.prog) w a [] (fun j v hj => by simp at hj))
    · obtain ⟨b, off, h2, _, hc⟩ := h.2 h0
      injection h2 with h2
      subst h2
      exact run_convert_bytes_arg w _ 5 Tryd.underlying24 Tryd.underlying5 b off n c zs hl (fun i hi => by rw [hc i (by omega)]; simp [List.getD]) _ Tryd.underlying9

/-- Whether two lists are the same. -/
def eqB (a b : List Int) : Bool := decide (a = b)
theorem eqB_true {a b : List Int} : eqB a b = true ↔ a = b := by simp [eqB]
theorem str_eq {a b : List Int} (ha : In 255 a) (hb : In 255 b) : ((strOfNums a).toList == (strOfNums b).toList) = eqB a b := by
  have e : ∀ l : List Int, (strOfNums l).toList = l.map fun n => UInt8.ofNat n.toNat := fun l => by rw [ByteArray.toList_eq]; rfl
  rw [e, e, Bool.eq_iff_iff, beq_iff_eq, eqB_true]
  refine ⟨fun h => ?_, fun h => by rw [h]⟩
  have hlen : a.length = b.length := by simpa using congrArg List.length h
  apply List.ext_getElem hlen
  intro i h1 h2
  have := congrArg (fun l : List UInt8 => l[i]?) h
  simp [h1, h2] at this
  have x := ha _ (List.getElem_mem h1)
  have y := hb _ (List.getElem_mem h2)
  have t := congrArg UInt8.toNat this
  simp at t
  omega

theorem row_in {B : Nat} {w : World} {a : Option Addr} {zs : List Int} (h : Row .u8 B w a zs) : In 255 zs := fun x hx => wf_u8.1 (h.1 x hx)
set_option maxRecDepth 100000 in
theorem equal_any (a : Option Addr) (n c : Nat) (zs : List Int) (a' : Option Addr) (n' c' : Nat) (ys : List Int) (B B' : Nat) (w : World) (h : Row .u8 B w a zs) (hl : zs.length = n) (h' : Row .u8 B' w a' ys) (hl' : ys.length = n') :
    Calls Tryd.prog 35 #[.slice a n c, .slice a' n' c'] w fun e w' => e = .returned (.bool (eqB zs ys)) ∧ w = w' := by
  have e1 := h.str n c hl
  have e2 := h'.str n' c' hl'
  have HE := Lib.hid (str_eq (row_in h) (row_in h'))
  clear h h' hl hl'
  go_enter Tryd.func35, Tryd.ntmps35
  go_wp2
  go_ret
  exact ⟨ret_bool HE.out, rfl⟩
end Go.Proofs.YtjofijigfkkidaaDoor
