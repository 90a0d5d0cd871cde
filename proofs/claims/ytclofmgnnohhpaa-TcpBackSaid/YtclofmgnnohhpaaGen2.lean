/- More general words: a bit turned in a byte. -/
import Derived.Test.YtclofmgnnohhpaaGen
namespace Go.Proofs.Ytclofmgnnohhpaa
open Go.RowKit
open SumM

/-- 'x ^ 1<<s' of a byte. -/
theorem xor_u8_bit (x : Int) (h0 : 0 ≤ x) (h1 : x ≤ 255) (s : Nat) (hs : s < 8) :
    (bits .xor .u8 x ((2 : Int) ^ s % 256) = x + (2 ^ s : Nat) ∨ bits .xor .u8 x ((2 : Int) ^ s % 256) + (2 ^ s : Nat) = x) ∧ 0 ≤ bits .xor .u8 x ((2 : Int) ^ s % 256) ∧ bits .xor .u8 x ((2 : Int) ^ s % 256) ≤ 255 := by
  have hp := pow_le s hs
  have e : (2 : Int) ^ s % 256 = ((2 ^ s : Nat) : Int) := by
    rw [show (2 : Int) ^ s = ((2 ^ s : Nat) : Int) by simp]
    omega
  have hb := xor_bit x.toNat s (by omega) hs
  have hl : x.toNat ^^^ 2 ^ s < 256 := Nat.xor_lt_two_pow (n := 8) (by omega) (by omega)
  rw [e, u8_xor x _ h0 (by omega) (by omega) (by omega), show (((2 ^ s : Nat) : Int)).toNat = 2 ^ s from rfl]
  generalize x.toNat ^^^ 2 ^ s = y at *
  generalize 2 ^ s = d at *
  omega
end Go.Proofs.Ytclofmgnnohhpaa
