/- Put and Parse of segments, ours and the document's, in one form: what they answer, whatever came in. -/
import Derived.Test.YtclofmgnnohhpaaTcpW
import Derived.Test.YtclofmgnnohhpaaTcpL
namespace Go.Proofs.Ytclofmgnnohhpaa
open Go.RowKit
open SumM

/-- What is put, if anything is. -/
def tputB (s d sp dp tf hd : Int) (dn : Nat) (ps : List Int) : List Int := if mayB hd dn = true then tput s d sp dp tf hd ps else []
def TPutAs (zs : List Int) (r : Bool) (w : World) (e : Ending) (w' : World) : Prop :=
  ∃ A n c, e = .returned (.tuple #[.slice A n c, .bool r]) ∧ zs.length = n ∧ Row .u8 w'.heap.size w' A zs ∧ (A = none → c = 0) ∧ n ≤ c ∧ c ≤ 9223372036854775807 ∧ Below w.heap.size w w'
theorem tput_as' {s d : Int} {f : FuncId} (sp dp tf hd : Int) (dn : Nat) {ps : List Int} (H : TNums sp dp tf) (hp : In 255 ps) {w : World} {v : Value} {x y : Value} (hpl : ps.length = dn)
    (hyes : mayB hd dn = true → Calls Try.prog f #[x, y, v] w (TPutN (hd.toNat + dn) (tput s d sp dp tf hd ps) w))
    (hno : mayB hd dn = false → Calls Try.prog f #[x, y, v] w fun e w' => e = .returned (.tuple #[.slice none 0 0, .bool false]) ∧ Below w.heap.size w w') :
    Calls Try.prog f #[x, y, v] w (TPutAs (tputB s d sp dp tf hd dn ps) (mayB hd dn) w) := by
  by_cases h : mayB hd dn = true
  · refine (hyes h).mono ?_
    rintro e w' ⟨A, c, rfl, hO, hb⟩
    obtain ⟨m1, m2, m3, m4⟩ := mayB_le h
    have hc := own_cap hO
    refine ⟨A, _, c, by rw [h], ?_, ?_, own_nil hO, hc.1, hc.2, hb⟩
    · unfold tputB
      rw [if_pos h, tput_length, hpl]
    · unfold tputB
      rw [if_pos h]
      exact Row.of_own hO (in_wf8 (tput_in H ⟨m1, m2⟩ hp))
  · refine (hno (by simpa using h)).mono ?_
    rintro e w' ⟨rfl, hb⟩
    refine ⟨none, 0, 0, by rw [show mayB hd dn = false by simpa using h], ?_, ?_, fun _ => rfl, Nat.le_refl _, by decide, hb⟩
    · unfold tputB
      rw [if_neg h]
      rfl
    · unfold tputB
      rw [if_neg h]
      exact Row.nil _ _ _ _
theorem tcpPut_as (s d : Int) (sp dp tf hd : Int) (da : Option Addr) (dn dc : Nat) (ps : List Int) (hs : 0 ≤ s ∧ s ≤ 4294967295) (hd' : 0 ≤ d ∧ d ≤ 4294967295) (H : TNums sp dp tf) (hh : -9223372036854775808 ≤ hd ∧ hd ≤ 9223372036854775807) (hdn : dn ≤ 281474976710656) (w : World)
    (hrp : Row .u8 w.heap.size w da ps) (hpl : ps.length = dn) (hpn : da = none → dc = 0) :
    Calls Try.prog 10 #[.int .u32 s, .int .u32 d, .agg #[.int .u16 sp, .int .u16 dp, .int .u8 tf, .int .i64 hd, .slice da dn dc]] w (TPutAs (tputB s d sp dp tf hd dn ps) (mayB hd dn) w) :=
  tput_as' sp dp tf hd dn H (row_in hrp) hpl (fun h => tcpPut_yes s d sp dp tf hd da dn dc ps hs hd' H h w hrp hpl hpn) (fun h => tcpPut_no s d sp dp tf hd da dn dc hh hdn h w)
theorem refTcpPut_as (s d : Int) (sp dp tf hd : Int) (da : Option Addr) (dn dc : Nat) (ps : List Int) (hs : 0 ≤ s ∧ s ≤ 4294967295) (hd' : 0 ≤ d ∧ d ≤ 4294967295) (H : TNums sp dp tf) (hh : -9223372036854775808 ≤ hd ∧ hd ≤ 9223372036854775807) (hdn : dn ≤ 281474976710656) (w : World)
    (hrp : Row .u8 w.heap.size w da ps) (hpl : ps.length = dn) (hpn : da = none → dc = 0) :
    Calls Try.prog 11 #[.int .u32 s, .int .u32 d, .agg #[.int .u16 sp, .int .u16 dp, .int .u8 tf, .int .i64 hd, .slice da dn dc]] w (TPutAs (tputB s d sp dp tf hd dn ps) (mayB hd dn) w) :=
  tput_as' sp dp tf hd dn H (row_in hrp) hpl (fun h => refTcpPut_yes s d sp dp tf hd da dn dc ps hs hd' H h w hrp hpl hpn) (fun h => refTcpPut_no s d sp dp tf hd da dn dc hh hdn h w)
/-- A head that reads as told. -/
structure TcpIs (s d : Int) (bs : List Int) (sp dp tf hd : Int) (ps : List Int) : Prop where
  h1 : sp = if twhy s d bs = 0 then wordAt bs 0 else 0
  h2 : dp = if twhy s d bs = 0 then wordAt bs 1 else 0
  h3 : tf = if twhy s d bs = 0 then bs[13]?.getD 0 else 0
  h4 : hd = if twhy s d bs = 0 then thl bs else 0
  h5 : ps = if twhy s d bs = 0 then bs.drop (thl bs).toNat else []
def TParseAs (s d : Int) (bs : List Int) (w : World) (e : Ending) (w' : World) : Prop :=
  ∃ (sp dp tf hd : Int) (da : Option Addr) (dn dc : Nat), ∃ ps : List Int, e = .returned (.tuple #[.agg #[.int .u16 sp, .int .u16 dp, .int .u8 tf, .int .i64 hd, .slice da dn dc], .int .u8 (twhy s d bs)]) ∧ TcpIs s d bs sp dp tf hd ps ∧ Row .u8 w'.heap.size w' da ps ∧ ps.length = dn ∧ Below w.heap.size w w'
theorem tparse_as {s d : Int} {bs : List Int} {w : World} {e : Ending} {w' : World} (hin : In 255 bs) (h : TParseRet s d bs w e w') : TParseAs s d bs w e w' := by
  rcases h with ⟨h0, rfl, hb⟩ | ⟨h0, A, c, rfl, h1, hb⟩
  · exact ⟨_, _, _, _, _, _, _, [], rfl, ⟨by rw [if_neg h0], by rw [if_neg h0], by rw [if_neg h0], by rw [if_neg h0], by rw [if_neg h0]⟩, Row.nil _ _ _ _, rfl, hb⟩
  · exact ⟨_, _, _, _, _, _, _, _, by rw [h0], ⟨by rw [if_pos h0], by rw [if_pos h0], by rw [if_pos h0], by rw [if_pos h0], by rw [if_pos h0]⟩, Row.of_own h1 (in_wf8 (in_drop hin _)), rfl, hb⟩
theorem TcpIs.same {s d : Int} {bs : List Int} {sp dp tf hd sp' dp' tf' hd' : Int} {ps ps' : List Int} (h : TcpIs s d bs sp dp tf hd ps) (k : TcpIs s d bs sp' dp' tf' hd' ps') : tsameB sp dp tf hd ps sp' dp' tf' hd' ps' = true := by
  unfold tsameB
  rw [h.h1, h.h2, h.h3, h.h4, h.h5, k.h1, k.h2, k.h3, k.h4, k.h5]
  simp
end Go.Proofs.Ytclofmgnnohhpaa
