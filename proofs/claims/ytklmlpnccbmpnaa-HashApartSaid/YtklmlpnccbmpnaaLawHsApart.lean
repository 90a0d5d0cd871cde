/- 'handfastlaw08.HashApart' returns true at all states and bytes, and leaves what lay as it lay. -/
import Derived.Test.YtklmlpnccbmpnaaLawHsApA
import Derived.Test.YtklmlpnccbmpnaaLawHsApB
namespace Go.Proofs.Ytklmlpnccbmpnaa
open Go.RowKit Go.Shelf
open SumM

set_option maxRecDepth 100000 in
set_option maxHeartbeats 16000000 in
theorem hApart_walk (s o : Int) (a : Option Addr) (len cap : Nat) (bs : List Int) (at' : Int) (w : World) (h0 : (Lit.int .u8 s).wf = true) (h1 : (Lit.int .u8 o).wf = true) (h2 : IsRow .u8 w a len cap bs) (_ : (Lit.int .i64 at').wf = true) :
    Calls Try.prog 5 #[.int .u8 s, .int .u8 o, .slice a len cap, .int .i64 at'] w fun e w' => e = .returned (.bool true) ∧ Below w.heap.size w w' := by
  obtain ⟨hrz, hzl, hn, hlc, hmz⟩ := h2.row
  generalize bs.take len = zs at *
  have hs := wf_u8.1 h0
  have ho := wf_u8.1 h1
  by_cases hbig : 100 < len
  · have p1 : decide ((100 : Int) < (len : Int)) = true := decide_eq_true (by omega)
    clear hrz hzl hn h2
    go_enter Try.func5, Try.ntmps5
    go_wp2_with (go_at_call 9; (with_reducible refine (hwakes_any _).mono ?_); rintro e w3 ⟨rfl, m3⟩)
    go_ret
    exact ⟨rfl, m3⟩
  have hl : len ≤ 100 := by omega
  rcases Nat.eq_zero_or_pos len with hz | hz
  · subst hz
    rcases a with _ | ad
    · obtain rfl := hn rfl
      rcases Int.lt_trichotomy at' 0 with hA | hA | hA
      · exact hApart_znl s o at' w hs ho hA
      · exact hApart_zne s o at' w hs ho hA.symm
      · exact hApart_zng s o at' w hs ho hA
    · by_cases hc : cap = 0
      · subst hc
        rcases Int.lt_trichotomy at' 0 with hA | hA | hA
        · exact hApart_zdl s o ad at' w hs ho hA
        · exact hApart_zde s o ad at' w hs ho hA.symm
        · exact hApart_zdg s o ad at' w hs ho hA
      · rcases Int.lt_trichotomy at' 0 with hA | hA | hA
        · exact hApart_zcl s o ad cap at' w hs ho hA hc
        · exact hApart_zce s o ad cap at' w hs ho hA.symm hc
        · exact hApart_zcg s o ad cap at' w hs ho hA hc
  obtain ⟨b, off, rfl, _, _⟩ := hrz.2 (by omega)
  rcases Int.lt_or_le at' 0 with hA | hA
  · exact hApart_neg s o b off len cap zs at' w hs ho hrz hzl hlc hl hA
  rcases Int.lt_trichotomy at' (len : Int) with hB | hB | hB
  · exact hApart_mid s o b off len cap zs at' w hs ho hrz hzl hlc hl at'.toNat (by omega) (by omega)
  · by_cases hc : cap = len
    · exact hApart_top2 s o b off len cap zs at' w hs ho hrz hzl hlc hl hB.symm hc
    · exact hApart_top3 s o b off len cap zs at' w hs ho hrz hzl hlc hl hB.symm hc
  · by_cases hc : cap = len
    · exact hApart_top0 s o b off len cap zs at' w hs ho hrz hzl hlc hl hB hc
    · exact hApart_top1 s o b off len cap zs at' w hs ho hrz hzl hlc hl hB hc
end Go.Proofs.Ytklmlpnccbmpnaa
