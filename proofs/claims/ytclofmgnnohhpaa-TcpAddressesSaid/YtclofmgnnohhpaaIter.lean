/- What 'handfast/sum.wordsOf' and the closure that it hands back do: the words of b, one by one, to whatever loop's body keeps b and the closure's own box. -/
import Derived.Test.YtclofmgnnohhpaaCarry
import Derived.Test.YtclofmgnnohhpaaIterBase
namespace Go.Proofs.Ytclofmgnnohhpaa
open Go.RowKit Go.Shelf
open SumM

attribute [local go_sem] Oper.semAt_some

/-- A word. -/
abbrev W16 := { x : Int // 0 ≤ x ∧ x ≤ 65535 }
def w16 (bs : List Int) (h : In 255 bs) (k : Nat) : W16 := ⟨wordAt bs k, wordAt_in h k⟩

set_option maxRecDepth 100000 in
set_option maxHeartbeats 2000000 in
theorem iter_in (F : Fence) (n : Nat) (hf : F.fn 38) (hro : F.round = none) (hn : 1 ≤ n) (l Bs n₀ len cap : Nat) (a : Option Addr) (bs : List Int) (hin : In 255 bs) (hl : bs.length = len) (hs : len ≤ 8000000) (J Jx : List W16 → World → Prop)
    (hY : ∀ pre x W, J pre W → pre.length < (len + 1) / 2 → YieldAt F (n - 1) Try.prog l #[.int .u16 x.1] W fun e W' =>
      (e = .returned (.bool true) ∧ J (pre ++ [x]) W' ∧ Keep n₀ [Bs] W W') ∨ (e = .returned (.bool false) ∧ Jx (pre ++ [x]) W'))
    (W : World) (hB : Boxed W Bs 23 (.slice a len cap)) (hR : Row .u8 n₀ W a bs) (h0 : J [] W) :
    CallsIn F n Try.prog 38 #[.func (.yield l) #[] #[], .pointer (some ⟨Bs, 0, none⟩)] W fun e W' => (∃ v, e = .returned v) ∧
      ((∃ ys, ys = uptoA (w16 bs hin) ((len + 1) / 2) ∧ J ys W') ∨ (∃ pre, (∃ k, k ≤ (len + 1) / 2 ∧ pre = uptoA (w16 bs hin) k) ∧ Jx pre W')) := by
  have HL := Lib.hid hl
  clear hl
  refine callsIn_of_wp Try.func38 rfl hf ?_ hro
  simp only [Try.ntmps38, List.size_toArray, List.length_cons, List.length_nil, Nat.reduceAdd, Nat.reduceSub, Array.replicate_succ, Array.replicate_zero, List.push_toArray, List.append_toArray, List.nil_append, List.cons_append]
  have hc0 := hB.cell
  gi_wp2
  gi_loopw [3] (fun i wr => ∃ k : Nat, 2 * k ≤ len + 1 ∧ i = .int .i64 (2 * k : Nat) ∧ J (uptoA (w16 bs hin) k) wr ∧ Keep n₀ [Bs] W wr)
    (fun i _ => len + 1 - (intOf i).toNat)
  case atStart => exact ⟨0, by omega, rfl, h0, Keep.refl _ _ _⟩
  case round =>
    obtain ⟨k, hk, rfl, hJs, hnx⟩ := hrel
    have hcB := (hnx.boxed (by simp) hB).cell
    have hRr := hR.below hnx.1
    by_cases hlt : 2 * k < len
    · obtain ⟨fn, tmps, assign, body, hy, hRd⟩ := hY _ (w16 bs hin k) wr hJs (by rw [uptoA_length]; omega)
      obtain ⟨b, off, rfl, hb, hc⟩ := hRr.2 (by rw [HL.out]; omega)
      have hx0 := getD_in hin (by decide) (2 * k)
      have hx1 := getD_in hin (by decide) (2 * k + 1)
      have hcx := hc (2 * k) (by rw [HL.out]; omega)
      have FIN : Hid (∀ (e : Ending) (W3 : World), ((e = .returned (.bool true) ∧ J (uptoA (w16 bs hin) k ++ [w16 bs hin k]) W3 ∧ Keep n₀ [Bs] wr W3) ∨ (e = .returned (.bool false) ∧ Jx (uptoA (w16 bs hin) k ++ [w16 bs hin k]) W3)) →
          (e = .returned (.bool true) ∧ Hid (J (uptoA (w16 bs hin) (k + 1)) W3) ∧ Hid (Keep n₀ [Bs] W W3)) ∨ (e = .returned (.bool false) ∧ Hid (Jx (uptoA (w16 bs hin) (k + 1)) W3))) := Lib.hid (by
        intro e W3 h
        rw [← uptoA_succ] at h
        exact h.imp (fun h => ⟨h.1, Lib.hid h.2.1, Lib.hid (keep_t hnx h.2.2)⟩) (fun h => ⟨h.1, Lib.hid h.2⟩))
      by_cases h1 : 2 * k + 1 < len
      · have hcy := hc (2 * k + 1) (by rw [HL.out]; omega)
        have ew : (w16 bs hin k).1 = bits .or .u16 (bs[2 * k]?.getD 0 * 256) (bs[2 * k + 1]?.getD 0) := by
          rw [or_word _ _ hx0.1 hx0.2 hx1.1 hx1.2]; rfl
        rw [ew] at hy
        clear hRr hc hc0 ew
        gi_wp2
        refine hRd.mono ?_
        intro e W3 h
        rcases FIN.out e W3 h with ⟨rfl, hJ3, hk3⟩ | ⟨rfl, hJx3⟩
        · gi_wp2
          go_roundw
          case rel => exact ⟨k + 1, by omega, by go_num, hJ3.out, hk3.out⟩
          case measure => simp [intOf]; omega
        · gi_wp2
          refine bodyPost_ret (results_none rfl _ _ _) rfl ?_
          exact ⟨⟨_, rfl⟩, .inr ⟨_, ⟨k + 1, by omega, rfl⟩, hJx3.out⟩⟩
      · have ew : (w16 bs hin k).1 = bs[2 * k]?.getD 0 * 256 := by
          show 256 * (bs[2 * k]?.getD 0) + (bs[2 * k + 1]?.getD 0) = _
          rw [show bs[2 * k + 1]? = none from List.getElem?_eq_none (by rw [HL.out]; omega)]
          simp; omega
        rw [ew] at hy
        clear hRr hc hc0 ew
        gi_wp2
        refine hRd.mono ?_
        intro e W3 h
        rcases FIN.out e W3 h with ⟨rfl, hJ3, hk3⟩ | ⟨rfl, hJx3⟩
        · gi_wp2
          go_roundw
          case rel => exact ⟨k + 1, by omega, by go_num, hJ3.out, hk3.out⟩
          case measure => simp [intOf]; omega
        · gi_wp2
          refine bodyPost_ret (results_none rfl _ _ _) rfl ?_
          exact ⟨⟨_, rfl⟩, .inr ⟨_, ⟨k + 1, by omega, rfl⟩, hJx3.out⟩⟩
    · obtain rfl : k = (len + 1) / 2 := by omega
      gi_wp2
      go_end0
      exact ⟨⟨_, rfl⟩, .inl ⟨_, rfl, hJs⟩⟩
end Go.Proofs.Ytclofmgnnohhpaa
