/- The document's own answers on tuples: end, Text. -/
import Derived.Test.YtpbheonapgckfaaDoorTupG
namespace Go.Proofs.YtpbheonapgckfaaDoor
open Go.RowKit Go.Shelf
open SumM

/-- The four parts of an address, with dots. -/
def dotL (zs : List Int) : Nat → List Int
  | 0 => []
  | k + 1 => dotL zs k ++ ((if k = 0 then [] else [46]) ++ decL (zs[k]?.getD 0).toNat)
def endL (a p : Int) : List Int := dotL [a / 16777216 % 256, a / 65536 % 256, a / 256 % 256, a % 256] 4 ++ [58] ++ decL p.toNat

theorem dotL_length (zs : List Int) (h : In 255 zs) (k : Nat) : (dotL zs k).length ≤ k * 257 := by
  induction k with
  | zero => simp [dotL]
  | succ k ih =>
    have h1 := decL_length (zs[k]?.getD 0).toNat
    have h2 := getD_in h (by decide) k
    have h3 : (if k = 0 then ([] : List Int) else [46]).length ≤ 1 := by split <;> simp
    simp only [dotL, List.length_append]
    omega

set_option maxRecDepth 100000 in
set_option maxHeartbeats 1000000 in
theorem r4end_any (a p : Int) (ha : 0 ≤ a ∧ a ≤ 4294967295) (hp : 0 ≤ p ∧ p ≤ 65535) (w : World) :
    Calls Tryd.prog 32 #[.int .u32 a, .int .u16 p] w fun e w' => e = .returned (.string (strOfNums (endL a p))) ∧ Below w.heap.size w w' := by
  have e1 : IntKind.i64.wrap a = a := IntWalk.i64_in _ (by omega)
  have HZ := r4in4 a
  have HE : Hid (endL a p = dotL [a / 16777216 % 256, a / 65536 % 256, a / 256 % 256, a % 256] 4 ++ [58] ++ decL p.toNat) := Lib.hid rfl
  have HA := Lib.hid ha
  have HP := Lib.hid hp
  have KB := Lib.hid (r4bytes4 a ha w)
  generalize hzs : [a / 16777216 % 256, a / 65536 % 256, a / 256 % 256, a % 256] = zs at *
  have HL : Hid (zs.length = 4) := Lib.hid (by rw [← hzs]; rfl)
  clear hzs
  go_enter Tryd.func32, Tryd.ntmps32
  go_wp2_with (first
    | (go_at_call 29; (with_reducible refine KB.out.mono ?_); rintro e w1 ⟨g, c, rfl, O1, m1⟩))
  have CB := Lib.hid (fun (j : Nat) (hj : j < 4) => own_cell O1 j hj)
  have hg1 : Hid (g < w1.heap.size) := Lib.hid (by
    obtain ⟨g', e, _, h⟩ := own_addr O1 (by decide)
    injection e with e
    injection e with e
    subst e
    exact h)
  have HX := Lib.hid m1
  clear O1 m1 KB
  go_loopw [6, 7] (fun s i wr => ∃ k : Nat, k ≤ 4 ∧ i = .int .i64 k ∧ s = .string (strOfNums (dotL zs k)) ∧ Below w1.heap.size w1 wr) (fun _ i _ => 4 - (intOf i).toNat)
  case atStart => exact ⟨0, by omega, rfl, rfl, Below.refl _ _⟩
  case round =>
    obtain ⟨k, hk, rfl, rfl, hB⟩ := hrel
    have HB := Lib.hid hB
    clear hB
    by_cases hlt : k < 4
    · have hx := (HB.out.cell (p := ⟨g, k, none⟩) hg1.out).trans (CB.out k hlt)
      have hr := getD_in HZ (by decide) k
      have hlen := dotL_length zs HZ k
      obtain ⟨xn, hxn⟩ : ∃ xn : Nat, zs[k]?.getD 0 = (xn : Int) := ⟨_, (Int.toNat_of_nonneg hr.1).symm⟩
      rw [hxn] at hx hr
      have hdl := decL_length xn
      have KD := Lib.hid (fun W => r4dec_any xn (by omega) W)
      have HS := Lib.hid (show strOfNums (dotL zs (k + 1)) = strOfNums (dotL zs k) ++ (strOfNums (if k = 0 then [] else [46]) ++ strOfNums (decL xn)) by
        rw [dotL, str_append, str_append, hxn]
        rfl)
      have f1 : (strOfNums (dotL zs k)).size ≤ 2000 := by rw [strOfNums_size]; omega
      have f2 : (strOfNums (decL xn)).size ≤ 2000 := by rw [strOfNums_size]; omega
      generalize strOfNums (dotL zs k) = S at *
      generalize strOfNums (decL xn) = D at *
      have e3 : IntKind.i64.wrap (xn : Int) = (xn : Int) := IntWalk.i64_in _ (by omega)
      have g1 : ¬ 9223372036854775807 < S.size + D.size := by omega
      have g2 : ¬ 9223372036854775807 < S.size + 1 := by omega
      have g3 : ¬ 9223372036854775807 < S.size + 1 + D.size := by omega
      have HK := Lib.hid hlt
      have ik : (k : Int) < 4 := by omega
      have ik2 : (0 : Int) ≤ (k : Int) := by omega
      clear hxn hlen hdl HZ f1 f2
      rcases Nat.eq_zero_or_pos k with hk0 | hk0
      · subst hk0
        go_wp2_with (first
          | (go_at_call 39; (with_reducible refine (KD.out _).mono ?_); rintro e w2 ⟨rfl, m2⟩))
        have HQ := Lib.hid (HB.out.trans (m2.mono HB.out.size))
        exact ⟨⟨1, by omega, rfl, by rw [show dotL zs 1 = dotL zs (0 + 1) from rfl, HS.out, if_pos trivial, show strOfNums [] = ByteArray.empty from rfl, ByteArray.empty_append], HQ.out⟩, by simp [intOf]⟩
      · have p1 : decide ((0 : Int) < (k : Int)) = true := decide_eq_true (by omega)
        go_wp2_with (first
          | (go_at_call 39; (with_reducible refine (KD.out _).mono ?_); rintro e w2 ⟨rfl, m2⟩))
        have HQ := Lib.hid (HB.out.trans (m2.mono HB.out.size))
        exact ⟨⟨k + 1, by omega, by go_num, by rw [HS.out, if_neg (by omega), show strOfNums [46] = ⟨#[46]⟩ from rfl, ByteArray.append_assoc], HQ.out⟩, by simp [intOf]; omega⟩
    · obtain rfl : k = 4 := by omega
      have hlen := dotL_length zs HZ 4
      obtain ⟨pn, hpn⟩ : ∃ pn : Nat, p = (pn : Int) := ⟨_, (Int.toNat_of_nonneg hp.1).symm⟩
      subst hpn
      have hdl := decL_length pn
      have KD := Lib.hid (fun W => r4dec_any pn (by omega) W)
      have HS := Lib.hid (show strOfNums (endL a pn) = strOfNums (dotL zs 4) ++ strOfNums [58] ++ strOfNums (decL pn) by
        rw [HE.out, str_append, str_append]
        rfl)
      have f1 : (strOfNums (dotL zs 4)).size ≤ 2000 := by rw [strOfNums_size]; omega
      have f2 : (strOfNums (decL pn)).size ≤ 70000 := by rw [strOfNums_size]; omega
      generalize strOfNums (dotL zs 4) = S at *
      generalize strOfNums (decL pn) = D at *
      have e3 : IntKind.i64.wrap (pn : Int) = (pn : Int) := IntWalk.i64_in _ (by omega)
      have g2 : ¬ 9223372036854775807 < S.size + 1 := by omega
      have g3 : ¬ 9223372036854775807 < S.size + 1 + D.size := by omega
      clear hlen hdl HZ f1 f2
      go_wp2_with (first
        | (go_at_call 39; (with_reducible refine (KD.out _).mono ?_); rintro e w2 ⟨rfl, m2⟩))
      go_ret
      have B0 := HX.out.trans (HB.out.mono HX.out.size)
      exact ⟨by rw [HS.out]; rfl, B0.trans (m2.mono B0.size)⟩

/-- A tuple's text. -/
def textL (ts td tp tq : Int) : List Int := endL ts tp ++ [62] ++ endL td tq
theorem endL_length (a p : Int) (hp : 0 ≤ p ∧ p ≤ 65535) : (endL a p).length ≤ 80000 := by
  have h1 := dotL_length [a / 16777216 % 256, a / 65536 % 256, a / 256 % 256, a % 256] (r4in4 a) 4
  have h2 := decL_length p.toNat
  simp only [endL, List.length_append, List.length_cons, List.length_nil]
  omega

set_option maxRecDepth 100000 in
set_option maxHeartbeats 2000000 in
theorem r4Text_any (ts td tp tq : Int) (H : UNums ts td tp tq) (w : World) :
    Calls Tryd.prog 20 #[.agg #[.int .u32 ts, .int .u32 td, .int .u16 tp, .int .u16 tq]] w fun e w' => e = .returned (.string (strOfNums (textL ts td tp tq))) ∧ Below w.heap.size w w' := by
  have bH := heap_alloc_new w (.cells #[.int .u32 ts, .int .u32 td, .int .u16 tp, .int .u16 tq] 25)
  have L0 := (Below.refl w.heap.size w).alloc (Nat.le_refl _) (.cells #[.int .u32 ts, .int .u32 td, .int .u16 tp, .int .u16 tq] 25)
  have K1 := Lib.hid (fun W => r4end_any ts tp H.h1 H.h3 W)
  have K2 := Lib.hid (fun W => r4end_any td tq H.h2 H.h4 W)
  have HS := Lib.hid (show strOfNums (textL ts td tp tq) = strOfNums (endL ts tp) ++ strOfNums [62] ++ strOfNums (endL td tq) by rw [textL, str_append, str_append])
  have f1 : (strOfNums (endL ts tp)).size ≤ 80000 := by rw [strOfNums_size]; exact endL_length _ _ H.h3
  have f2 : (strOfNums (endL td tq)).size ≤ 80000 := by rw [strOfNums_size]; exact endL_length _ _ H.h4
  generalize strOfNums (endL ts tp) = S at *
  generalize strOfNums (endL td tq) = D at *
  have g2 : ¬ 9223372036854775807 < S.size + 1 := by omega
  have g3 : ¬ 9223372036854775807 < S.size + 1 + D.size := by omega
  have G2 : decide (9223372036854775807 < S.size + 1) = false := decide_eq_false g2
  clear H f1 f2
  go_enter Tryd.func20, Tryd.ntmps20
  go_upto_region 1 with (fail)
  generalize w.alloc (.cells #[.int .u32 ts, .int .u32 td, .int .u16 tp, .int .u16 tq] 25) = W0 at *
  have CS := Lib.hid (fun W (m : Below W0.heap.size W0 W) => tup_cells _ _ _ _ ((m.block _ (Array.getElem?_eq_some_iff.1 bH).1).trans bH))
  have n0 := (Below.refl W0.heap.size W0).drew
  clear bH
  go_region_held3 (fun W => W.cell? ⟨w.heap.size, 0, none⟩ = some (.int .u32 ts) ∧ W.cell? ⟨w.heap.size, 1, none⟩ = some (.int .u32 td) ∧ W.cell? ⟨w.heap.size, 2, none⟩ = some (.int .u16 tp) ∧ W.cell? ⟨w.heap.size, 3, none⟩ = some (.int .u16 tq))
    (first | with_reducible exact CS.out _ n2 | with_reducible exact CS.out _ n1 | with_reducible exact CS.out _ n0)
    (first
      | (go_at_call 32; (with_reducible refine (K1.out W0.drew).mono ?_); rintro e w1 ⟨rfl, k1⟩; have n1 := n0.trans (k1.mono n0.size))
      | (go_at_call 32; (with_reducible refine (K2.out w1).mono ?_); rintro e w2 ⟨rfl, k2⟩; have n2 := n1.trans (k2.mono n1.size)))
  go_wp2
  go_ret
  exact ⟨by rw [HS.out]; rfl, L0.trans (n2.mono L0.size)⟩
end Go.Proofs.YtpbheonapgckfaaDoor
