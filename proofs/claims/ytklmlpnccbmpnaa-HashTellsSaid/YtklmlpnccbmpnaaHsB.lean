/- Arithmetic of the hash: states apart, one byte changed, buckets. Nothing of the program. -/
import Derived.Test.YtklmlpnccbmpnaaHsA
namespace Go.Proofs.Ytklmlpnccbmpnaa
open Go.RowKit Go.Shelf
open SumM

theorem xr_nat {x y : Int} (hx : 0 ≤ x ∧ x ≤ 255) (hy : 0 ≤ y ∧ y ≤ 255) : xr x y = ((x.toNat ^^^ y.toNat : Nat) : Int) := by
  unfold xr
  rw [u8_xor x y hx.1 (by omega) hy.1 (by omega)]
theorem xr_back {x y : Int} (hx : 0 ≤ x ∧ x ≤ 255) (hy : 0 ≤ y ∧ y ≤ 255) : xr (xr x y) y = x := by
  rw [xr_nat (xr_in hx hy) hy, xr_nat hx hy]
  simp only [Int.toNat_natCast]
  rw [Nat.xor_assoc, Nat.xor_self, Nat.xor_zero]
  omega
theorem xr_comm {x y : Int} (hx : 0 ≤ x ∧ x ≤ 255) (hy : 0 ≤ y ∧ y ≤ 255) : xr x y = xr y x := by rw [xr_nat hx hy, xr_nat hy hx, Nat.xor_comm]
theorem xr_inj {x y c : Int} (hx : 0 ≤ x ∧ x ≤ 255) (hy : 0 ≤ y ∧ y ≤ 255) (hc : 0 ≤ c ∧ c ≤ 255) (e : xr x c = xr y c) : x = y := by
  rw [← xr_back hx hc, ← xr_back hy hc, e]
theorem xr_zero {x : Int} (hx : 0 ≤ x ∧ x ≤ 255) : xr x 0 = x := by
  rw [xr_nat hx (by decide)]
  simp
  omega
theorem xr_self_iff {x y : Int} (hx : 0 ≤ x ∧ x ≤ 255) (hy : 0 ≤ y ∧ y ≤ 255) : xr x y = x ↔ y = 0 := by
  constructor
  · intro e
    have e2 : xr y x = xr 0 x := by
      rw [xr_comm hy hx, e, xr_comm (by decide) hx, xr_zero hx]
    exact xr_inj hy (by decide) hx e2
  · rintro rfl
    exact xr_zero hx
theorem goS_inj : ∀ (bs : List Int), In 255 bs → ∀ {s o : Int}, 0 ≤ s ∧ s ≤ 255 → 0 ≤ o ∧ o ≤ 255 → goS s bs = goS o bs → s = o
  | [], _, _, _, _, _, e => e
  | c :: r, h, s, o, hs, ho, e => by
    have hc := h c (by simp)
    have h1 := goS_inj r (fun x hx => h x (by simp [hx])) (trn_in (xr s c)) (trn_in (xr o c)) e
    exact xr_inj hs ho hc (trn_inj (xr_in hs hc) (xr_in ho hc) h1)
/-- One byte changed: the state is another, and only then. -/
theorem goS_set (bs : List Int) (h : In 255 bs) {s b : Int} (hs : 0 ≤ s ∧ s ≤ 255) (hb : 0 ≤ b ∧ b ≤ 255) (k : Nat) (hk : k < bs.length) :
    goS s (bs.set k (xr (bs[k]?.getD 0) b)) = goS s bs ↔ b = 0 := by
  have hd : bs[k]?.getD 0 = bs[k] := by simp [hk]
  have hc : 0 ≤ bs[k] ∧ bs[k] ≤ 255 := h _ (List.getElem_mem hk)
  rw [hd]
  constructor
  · intro e
    have e1 : bs = bs.take k ++ bs[k] :: bs.drop (k + 1) := by simp
    rw [List.set_eq_take_append_cons_drop, if_pos hk] at e
    conv at e => rhs; rw [e1]
    rw [goS_append, goS_append] at e
    have hg := goS_in (bs.take k) hs
    generalize goS s (bs.take k) = g at *
    have e3 := goS_inj (bs.drop (k + 1)) (fun x hx => h x (List.mem_of_mem_drop hx)) (trn_in (xr g (xr bs[k] b))) (trn_in (xr g bs[k])) e
    have e4 := trn_inj (xr_in hg (xr_in hc hb)) (xr_in hg hc) e3
    rw [xr_comm hg (xr_in hc hb), xr_comm hg hc] at e4
    exact (xr_self_iff hc hb).1 (xr_inj (xr_in hc hb) hc hg e4)
  · rintro rfl
    rw [xr_zero hc, List.set_getElem_self]
theorem bkt_fin : ∀ n : Fin 256, 0 ≤ bkt (n.val : Int) ∧ bkt (n.val : Int) ≤ 15 := by decide +kernel
theorem bkt_in {s : Int} (h : 0 ≤ s ∧ s ≤ 255) : 0 ≤ bkt s ∧ bkt s ≤ 15 := by
  have h1 := bkt_fin ⟨s.toNat, by omega⟩
  rwa [show ((⟨s.toNat, by omega⟩ : Fin 256).val : Int) = s by simp; omega] at h1
theorem ofU_in (ts td tp tq : Int) : 0 ≤ ofU ts td tp tq ∧ ofU ts td tp tq ≤ 15 := bkt_in (sumU_in ts td tp tq)
theorem unt_inj {c d : Int} (h : 0 ≤ c ∧ c ≤ 255) (k : 0 ≤ d ∧ d ≤ 255) (e : unt c = unt d) : c = d := by rw [← trn_unt h, ← trn_unt k, e]
/-- What the document says of 0 and 1. -/
theorem wakes_nums : trn 0 = 208 ∧ trn 1 = 75 ∧ unt 75 = 1 ∧ goS 0 [1, 0] = 175 ∧ goS 7 [] = 7 ∧ goS 0 (List.replicate 12 0) = sumU 0 0 0 0 := by decide +kernel
end Go.Proofs.Ytklmlpnccbmpnaa
