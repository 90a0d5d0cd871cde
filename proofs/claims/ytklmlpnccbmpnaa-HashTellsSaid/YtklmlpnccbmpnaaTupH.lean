/- The document's own answers on tuples: end, Text. -/
import Derived.Test.YtklmlpnccbmpnaaTupG
namespace Go.Proofs.Ytklmlpnccbmpnaa
open Go.RowKit Go.Shelf
open SumM

/-- The four parts of an address, with dots. -/
def dotL (zs : List Int) : Nat → List Int
  | 0 => []
  | k + 1 => dotL zs k ++ ((if k = 0 then [] else [46]) ++ decL (zs[k]?.getD 0).toNat)
def endL (a p : Int) : List Int := dotL [a / 16777216 % 256, a / 65536 % 256, a / 256 % 256, a % 256] 4 ++ [58] ++ decL p.toNat

theorem dotL_length (zs : List Int) (h : In 255 zs) (k : Nat) : (dotL zs k).length ≤ k * 257 := by
  induction k with
  | zero => simp [dotL]
  | succ k ih =>
    have h1 := decL_length (zs[k]?.getD 0).toNat
    have h2 := getD_in h (by decide) k
    have h3 : (if k = 0 then ([] : List Int) else [46]).length ≤ 1 := by split <;> simp
    simp only [dotL, List.length_append]
    omega

/-- A tuple's text. -/
def textL (ts td tp tq : Int) : List Int := endL ts tp ++ [62] ++ endL td tq
theorem endL_length (a p : Int) (hp : 0 ≤ p ∧ p ≤ 65535) : (endL a p).length ≤ 80000 := by
  have h1 := dotL_length [a / 16777216 % 256, a / 65536 % 256, a / 256 % 256, a % 256] (r4in4 a) 4
  have h2 := decL_length p.toNat
  simp only [endL, List.length_append, List.length_cons, List.length_nil]
  omega

end Go.Proofs.Ytklmlpnccbmpnaa
