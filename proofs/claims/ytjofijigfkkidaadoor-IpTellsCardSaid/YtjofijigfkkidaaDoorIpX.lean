/- Put and Parse, ours and the document's, in one form: what they answer, whatever came in. -/
import Derived.Test.YtjofijigfkkidaaDoorIpV
namespace Go.Proofs.YtjofijigfkkidaaDoor
open Go.RowKit
open SumM

/-- What is put, and whether. -/
def putB (sv nu fl ho pr sr ds : Int) (on pn : Nat) (os ps : List Int) : List Int := if rightB fl on pn = true then putOf sv nu fl ho pr sr ds on pn os ps else []
def PutAs (zs : List Int) (r : Bool) (w : World) (e : Ending) (w' : World) : Prop :=
  ∃ A n c, e = .returned (.tuple #[.slice A n c, .bool r]) ∧ zs.length = n ∧ Row .u8 w'.heap.size w' A zs ∧ Below w.heap.size w w'
theorem put_as (sv nu fl ho pr sr ds : Int) (oa : Option Addr) (on oc : Nat) (pa : Option Addr) (pn pc : Nat) (os ps : List Int) (H : Nums sv nu fl ho pr sr ds) (hle : on ≤ 100 ∧ pn ≤ 300) (w : World) (hg : 0 < w.heap.size) (hW : Wid w)
    (hro : Row .u8 w.heap.size w oa os) (hol : os.length = on) (hon : oa = none → oc = 0) (hrp : Row .u8 w.heap.size w pa ps) (hpl : ps.length = pn) (hpn : pa = none → pc = 0) :
    Calls Tryd.prog 10 #[.agg #[.int .u8 sv, .int .u16 nu, .int .u16 fl, .int .u8 ho, .int .u8 pr, .int .u32 sr, .int .u32 ds, .slice oa on oc, .slice pa pn pc]] w (PutAs (putB sv nu fl ho pr sr ds on pn os ps) (rightB fl on pn) w) := by
  by_cases h : rightB fl on pn = true
  · refine (put_n sv nu fl ho pr sr ds oa on oc pa pn pc os ps H h w hg hW hro hol hon hrp hpl hpn).mono ?_
    rintro e w' ⟨A, C, rfl, hO, hb⟩
    refine ⟨A, _, C, by rw [h], ?_, ?_, hb⟩
    · unfold putB
      rw [if_pos h]
      exact putOf_length os ps H (rightB_le h) hol hpl
    · unfold putB
      rw [if_pos h]
      exact Row.of_own hO (in_wf8 (putOf_in (row_in hro) (row_in hrp)))
  · refine (ipPut_no sv nu fl ho pr sr ds oa on oc pa pn pc (by simpa using h) (by omega) (by omega) w).mono ?_
    rintro e w' ⟨rfl, hb⟩
    refine ⟨none, 0, 0, by rw [show rightB fl on pn = false by simpa using h], ?_, ?_, hb⟩
    · unfold putB
      rw [if_neg h]
      rfl
    · unfold putB
      rw [if_neg h]
      exact Row.nil _ _ _ _
theorem rput_as (sv nu fl ho pr sr ds : Int) (oa : Option Addr) (on oc : Nat) (pa : Option Addr) (pn pc : Nat) (os ps : List Int) (H : Nums sv nu fl ho pr sr ds) (hle : on ≤ 100 ∧ pn ≤ 300) (w : World)
    (hro : Row .u8 w.heap.size w oa os) (hol : os.length = on) (hon : oa = none → oc = 0) (hrp : Row .u8 w.heap.size w pa ps) (hpl : ps.length = pn) (hpn : pa = none → pc = 0) :
    Calls Tryd.prog 11 #[.agg #[.int .u8 sv, .int .u16 nu, .int .u16 fl, .int .u8 ho, .int .u8 pr, .int .u32 sr, .int .u32 ds, .slice oa on oc, .slice pa pn pc]] w (PutAs (putB sv nu fl ho pr sr ds on pn os ps) (rightB fl on pn) w) := by
  by_cases h : rightB fl on pn = true
  · refine (refPut_n sv nu fl ho pr sr ds oa on oc pa pn pc os ps H h w hro hol hon hrp hpl hpn).mono ?_
    rintro e w' ⟨A, C, rfl, hO, hb⟩
    refine ⟨A, _, C, by rw [h], ?_, ?_, hb⟩
    · unfold putB
      rw [if_pos h]
      exact putOf_length os ps H (rightB_le h) hol hpl
    · unfold putB
      rw [if_pos h]
      exact Row.of_own hO (in_wf8 (putOf_in (row_in hro) (row_in hrp)))
  · refine (refPut_no sv nu fl ho pr sr ds oa on oc pa pn pc (by simpa using h) (by omega) (by omega) w).mono ?_
    rintro e w' ⟨rfl, hb⟩
    refine ⟨none, 0, 0, by rw [show rightB fl on pn = false by simpa using h], ?_, ?_, hb⟩
    · unfold putB
      rw [if_neg h]
      rfl
    · unfold putB
      rw [if_neg h]
      exact Row.nil _ _ _ _
/-- A head that reads as told. -/
structure HeadIs (bs : List Int) (sv nu fl ho pr sr ds : Int) (os ps : List Int) : Prop where
  h1 : sv = if whyOf bs = 0 then segAt bs 1 % 256 else 0
  h2 : nu = if whyOf bs = 0 then segAt bs 3 % 65536 else 0
  h3 : fl = if whyOf bs = 0 then segAt bs 4 % 65536 else 0
  h4 : ho = if whyOf bs = 0 then segAt bs 5 % 256 else 0
  h5 : pr = if whyOf bs = 0 then segAt bs 6 % 256 else 0
  h6 : sr = if whyOf bs = 0 then segAt bs 8 else 0
  h7 : ds = if whyOf bs = 0 then segAt bs 9 else 0
  h8 : os = if whyOf bs = 0 then (bs.take (hlOf bs)).drop 20 else []
  h9 : ps = if whyOf bs = 0 then bs.drop (hlOf bs) else []
def ParseAs (bs : List Int) (w : World) (e : Ending) (w' : World) : Prop :=
  ∃ (sv nu fl ho pr sr ds : Int) (oa : Option Addr) (on oc : Nat) (pa : Option Addr) (pn pc : Nat), ∃ os ps : List Int, e = .returned (.tuple #[.agg #[.int .u8 sv, .int .u16 nu, .int .u16 fl, .int .u8 ho, .int .u8 pr, .int .u32 sr, .int .u32 ds, .slice oa on oc, .slice pa pn pc], .int .u8 (whyOf bs)]) ∧ HeadIs bs sv nu fl ho pr sr ds os ps ∧ Row .u8 w'.heap.size w' oa os ∧ os.length = on ∧ Row .u8 w'.heap.size w' pa ps ∧ ps.length = pn ∧ Below w.heap.size w w'
theorem parse_as {bs : List Int} {w : World} {e : Ending} {w' : World} (hin : In 255 bs) (h : ParseRet bs w e w') : ParseAs bs w e w' := by
  rcases h with ⟨h0, rfl, hb⟩ | ⟨h0, v, rfl, oa, oc, pa, pc, rfl, h1, h2, hb⟩
  · exact ⟨_, _, _, _, _, _, _, _, _, _, _, _, _, [], [], rfl, ⟨by rw [if_neg h0], by rw [if_neg h0], by rw [if_neg h0], by rw [if_neg h0], by rw [if_neg h0], by rw [if_neg h0], by rw [if_neg h0], by rw [if_neg h0], by rw [if_neg h0]⟩, Row.nil _ _ _ _, rfl, Row.nil _ _ _ _, rfl, hb⟩
  · refine ⟨_, _, _, _, _, _, _, _, _, _, _, _, _, _, _, by rw [h0], ⟨by rw [if_pos h0], by rw [if_pos h0], by rw [if_pos h0], by rw [if_pos h0], by rw [if_pos h0], by rw [if_pos h0], by rw [if_pos h0], by rw [if_pos h0], by rw [if_pos h0]⟩, Row.of_own h1 (in_wf8 (in_drop (in_take hin _) _)), rfl, Row.of_own h2 (in_wf8 (in_drop hin _)), rfl, hb⟩
end Go.Proofs.YtjofijigfkkidaaDoor
