/- Plain facts on wraps: bytes are a wrap's just if the head that they bear is that wrap's. -/
import Derived.Test.YthenbpnlmpeafaaDoorEnM
namespace Go.Proofs.YthenbpnlmpeafaaDoor
open Go.RowKit Go.Shelf
open SumM

theorem otF_no {bs : List Int} (h : optOk (otF bs).1 (otF bs).2.1 (otF bs).2.2.1 (otF bs).2.2.2.1 (otF bs).2.2.2.2.1 (otF bs).2.2.2.2.2 = true) : otY bs = 0 := by
  rcases Classical.em (otY bs = 0) with h0 | h0
  · exact h0
  · unfold otF at h
    rw [if_neg h0] at h
    exact absurd h (by decide)
theorem nodV_is {a : Int} (h : isNod (nodV a) = true) : nodB a = true ∧ adr (nodV a) = a := by
  unfold nodV nodB at *
  cases hn : nodAt a with
  | none =>
    rw [hn] at h
    exact absurd h (by decide)
  | some u => exact ⟨rfl, (nodAt_some hn).2⟩
theorem nodB_is {a : Int} (h : nodB a = true) : isNod (nodV a) = true ∧ adr (nodV a) = a := by
  unfold nodV nodB at *
  cases hn : nodAt a with
  | none =>
    rw [hn] at h
    cases h
  | some u => exact ⟨isNod_mem.2 (nodAt_some hn).1, (nodAt_some hn).2⟩
/-- Whether the wrap that a head would be the head of may be. -/
def ehOk (bs : List Int) : Bool := enOk (nodV (segAt bs 8)).1 (nodV (segAt bs 8)).2 (nodV (segAt bs 9)).1 (nodV (segAt bs 9)).2 (otF (etOpt bs)).1 (otF (etOpt bs)).2.1 (otF (etOpt bs)).2.2.1 (otF (etOpt bs)).2.2.2.1 (otF (etOpt bs)).2.2.2.2.1 (otF (etOpt bs)).2.2.2.2.2
/-- Whether that one's head is this head. -/
def ehSame (bs : List Int) : Bool := sameB (segAt bs 1 % 256) (segAt bs 3 % 65536) (segAt bs 4 % 65536) (segAt bs 5 % 256) (segAt bs 6 % 256) (segAt bs 8) (segAt bs 9) (etOpt bs) (etIn bs)
  0 0 0 64 4 (adr (nodV (segAt bs 8))) (adr (nodV (segAt bs 9))) (optB (otF (etOpt bs)).1 (otF (etOpt bs)).2.1 (otF (etOpt bs)).2.2.1 (otF (etOpt bs)).2.2.2.1 (otF (etOpt bs)).2.2.2.2.1 (otF (etOpt bs)).2.2.2.2.2) (etIn bs)
theorem et_head {bs : List Int} (hin : In 255 bs) (hw : whyOf bs = 0) : etOk bs = (ehOk bs && ehSame bs) := by
  obtain ⟨p1, p2, p3⟩ := put_parse hin hw
  have hle := rightB_le p2
  rw [Bool.eq_iff_iff]
  constructor
  · intro h
    obtain ⟨e1, e2, e3, e4⟩ := et_facts h
    obtain ⟨k1, k2⟩ := enY_zero.1 e3
    obtain ⟨g1, g2, g3⟩ := enOk_iff.1 k1
    have hF : otF (etOpt bs) = otV (etOpt bs) := by unfold otF; rw [if_pos e2]
    rw [Bool.and_eq_true]
    refine ⟨by unfold ehOk; rw [hF]; exact k1, ?_⟩
    unfold ehSame
    rw [hF, (otY_zero e2).2.2]
    have HN : Nums 0 0 0 64 4 (adr (nodV (segAt bs 8))) (adr (nodV (segAt bs 9))) := ⟨by decide, by decide, by decide, by decide, by decide, adr_all _ (isNod_mem.1 g1), adr_all _ (isNod_mem.1 g2)⟩
    have hs := put_seg (on := 16) (pn := (etIn bs).length) (optB (otV (etOpt bs)).1 (otV (etOpt bs)).2.1 (otV (etOpt bs)).2.2.1 (otV (etOpt bs)).2.2.2.1 (otV (etOpt bs)).2.2.2.2.1 (otV (etOpt bs)).2.2.2.2.2) (etIn bs) HN ⟨by omega, rfl, by omega⟩ rfl
    have e5 : putOf 0 0 0 64 4 (adr (nodV (segAt bs 8))) (adr (nodV (segAt bs 9))) 16 (etIn bs).length (optB (otV (etOpt bs)).1 (otV (etOpt bs)).2.1 (otV (etOpt bs)).2.2.1 (otV (etOpt bs)).2.2.2.1 (otV (etOpt bs)).2.2.2.2.1 (otV (etOpt bs)).2.2.2.2.2) (etIn bs) = bs := e4
    rw [e5] at hs
    obtain ⟨s1, s2, s3, s4, s5, s6, s7, _, _⟩ := hs
    exact decide_eq_true ⟨s1, s2, s3, s4, s5, s6, s7, rfl, rfl⟩
  · intro h
    rw [Bool.and_eq_true] at h
    obtain ⟨h1, h2⟩ := h
    unfold ehOk at h1
    obtain ⟨g1, g2, g3⟩ := enOk_iff.1 h1
    have hy := otF_no g3
    have hF : otF (etOpt bs) = otV (etOpt bs) := by unfold otF; rw [if_pos hy]
    rw [hF] at h1 g3
    unfold ehSame sameB at h2
    obtain ⟨s1, s2, s3, s4, s5, s6, s7, s8, _⟩ := of_decide_eq_true h2
    have hl := (otY_zero hy).1
    have hc := (otY_zero hy).2.2
    have n1 := nodV_is (a := segAt bs 8) g1
    have n2 := nodV_is (a := segAt bs 9) g2
    have h36 : 36 + (etIn bs).length ≤ 65535 := by
      have : ((bs.take (hlOf bs)).drop 20).length = 16 := hl
      have h3 : (etIn bs).length = (bs.drop (hlOf bs)).length := rfl
      omega
    have hyz := enY_zero.2 ⟨h1, h36⟩
    have hz : etZ bs = bs := by
      unfold etZ enZ
      rw [if_pos hyz]
      unfold enB
      rw [hc, show ((nodV (segAt bs 8)).1, (nodV (segAt bs 8)).2) = nodV (segAt bs 8) from rfl, show ((nodV (segAt bs 9)).1, (nodV (segAt bs 9)).2) = nodV (segAt bs 9) from rfl, n1.2, n2.2]
      rw [s1, s2, s3, s4, s5, show ((bs.take (hlOf bs)).drop 20).length = 16 from hl] at p3
      exact p3
    unfold etOk
    rw [hw, hy, n1.1, n2.1, hz, eqB_true.2 rfl]
    rfl
end Go.Proofs.YthenbpnlmpeafaaDoor
