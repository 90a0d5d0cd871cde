/- The document's own Parse of segments. -/
import Derived.Test.YtclofmgnnohhpaaTcpT
import Derived.Test.YtclofmgnnohhpaaTcpR2
import Derived.Deep.RegionLaw
import Derived.Deep.DeepCutAuto
namespace Go.Proofs.Ytclofmgnnohhpaa
open Go.RowKit Go.Shelf
open SumM

theorem cell_s5 {W : World} {b b' j : Nat} {v v0 v1 v2 v3 v4 : Value} (hne : b ≠ b') (h : W.cell? ⟨b, j, none⟩ = some v) :
    (((((W.setCell ⟨b', 0, none⟩ v0).setCell ⟨b', 1, none⟩ v1).setCell ⟨b', 2, none⟩ v2).setCell ⟨b', 3, none⟩ v3).setCell ⟨b', 4, none⟩ v4).cell? ⟨b, j, none⟩ = some v := cell_sc (vs := [v0, v1, v2, v3, v4]) hne h

set_option maxRecDepth 100000 in
set_option maxHeartbeats 8000000 in
theorem refTcpParse_any (s d : Int) (hs : 0 ≤ s ∧ s ≤ 4294967295) (hd' : 0 ≤ d ∧ d ≤ 4294967295) (a : Option Addr) (len cap : Nat) (bs : List Int) (hlen : bs.length = len) (hlc : len ≤ cap) (_ : cap ≤ 9223372036854775807) (hln : len ≤ 1000000) (w : World) (hR : Row .u8 w.heap.size w a bs) :
    Calls Try.prog 9 #[.int .u32 s, .int .u32 d, .slice a len cap] w (TParseRet s d bs w) := by
  have HL := Lib.hid hlen
  clear hlen
  have hin := row_in hR
  have hd0 := heap_alloc_new w (.cells #[.int .u16 0, .int .u16 0, .int .u8 0, .int .i64 0, .slice none 0 0] 26)
  have L0 : Below w.heap.size w (w.alloc (.cells #[.int .u16 0, .int .u16 0, .int .u8 0, .int .i64 0, .slice none 0 0] 26)) := (Below.refl _ w).alloc (Nat.le_refl _) _
  have C0 := Lib.hid hd0
  have B0 := Lib.hid L0
  obtain ⟨q0, q1, q2, q3, q4⟩ := tcp_cells _ _ _ _ _ _ _ hd0
  have f0 := tcp_frozen hd0 0
  have f1 := tcp_frozen hd0 1
  have f2 := tcp_frozen hd0 2
  have f3 := tcp_frozen hd0 3
  have f4 := tcp_frozen hd0 4
  clear hd0 L0
  by_cases e1 : len < 20 ∨ 65535 < len
  · have HY := Lib.hid (show twhy s d bs = 8 by unfold twhy; rw [if_pos (by rw [HL.out]; exact e1)])
    rcases e1 with e1 | e1
    · have p1 : decide ((len : Int) < 20) = true := decide_eq_true (by omega)
      go_enter Try.func9, Try.ntmps9
      go_upto_region 1 with (fail)
      generalize w.alloc (.cells #[.int .u16 0, .int .u16 0, .int .u8 0, .int .i64 0, .slice none 0 0] 26) = W0 at *
      go_wp2
      refine bodyPost_ret (results_tcp rfl _ _ w.heap.size _ (0, 0) rfl (full_setCells C0.out [.int .u16 0, .int .u16 0, .int .u8 0, .int .i64 0, .slice none 0 0] rfl) rfl) rfl ?_
      exact .inl ⟨by rw [HY.out]; decide, by rw [HY.out]; rfl, below_setCells w.heap.size (Nat.le_refl _) [.int .u16 0, .int .u16 0, .int .u8 0, .int .i64 0, .slice none 0 0] 0 w _ B0.out⟩
    · have p1 : decide ((len : Int) < 20) = false := decide_eq_false (by omega)
      have p2 : decide ((65535 : Int) < len) = true := decide_eq_true (by omega)
      go_enter Try.func9, Try.ntmps9
      go_upto_region 1 with (fail)
      generalize w.alloc (.cells #[.int .u16 0, .int .u16 0, .int .u8 0, .int .i64 0, .slice none 0 0] 26) = W0 at *
      go_wp2
      refine bodyPost_ret (results_tcp rfl _ _ w.heap.size _ (0, 0) rfl (full_setCells C0.out [.int .u16 0, .int .u16 0, .int .u8 0, .int .i64 0, .slice none 0 0] rfl) rfl) rfl ?_
      exact .inl ⟨by rw [HY.out]; decide, by rw [HY.out]; rfl, below_setCells w.heap.size (Nat.le_refl _) [.int .u16 0, .int .u16 0, .int .u8 0, .int .i64 0, .slice none 0 0] 0 w _ B0.out⟩
  have p1 : decide ((len : Int) < 20) = false := decide_eq_false (by omega)
  have p2 : decide ((65535 : Int) < len) = false := decide_eq_false (by omega)
  have N1 := Lib.hid (show ¬ (bs.length < 20 ∨ 65535 < bs.length) by rw [HL.out]; exact e1)
  obtain ⟨b, off, rfl, hbw, hcz⟩ := hR.2 (by rw [HL.out]; omega)
  have b0 := getD_in hin (by decide) 0
  have b1 := getD_in hin (by decide) 1
  have b2 := getD_in hin (by decide) 2
  have b3 := getD_in hin (by decide) 3
  have b12 := getD_in hin (by decide) 12
  have CS := Lib.hid (fun W (m : Below w.heap.size w W) => (show W.cell? ⟨b, off, none⟩ = some (.int .u8 (bs[0]?.getD 0)) ∧ W.cell? ⟨b, off + 1, none⟩ = some (.int .u8 (bs[1]?.getD 0)) ∧ W.cell? ⟨b, off + 2, none⟩ = some (.int .u8 (bs[2]?.getD 0)) ∧ W.cell? ⟨b, off + 3, none⟩ = some (.int .u8 (bs[3]?.getD 0)) ∧ W.cell? ⟨b, off + 13, none⟩ = some (.int .u8 (bs[13]?.getD 0)) from
    ⟨(m.cell (p := ⟨b, off, none⟩) hbw).trans (hcz 0 (by rw [HL.out]; omega)), (m.cell (p := ⟨b, off + 1, none⟩) hbw).trans (hcz 1 (by rw [HL.out]; omega)), (m.cell (p := ⟨b, off + 2, none⟩) hbw).trans (hcz 2 (by rw [HL.out]; omega)), (m.cell (p := ⟨b, off + 3, none⟩) hbw).trans (hcz 3 (by rw [HL.out]; omega)), (m.cell (p := ⟨b, off + 13, none⟩) hbw).trans (hcz 13 (by rw [HL.out]; omega))⟩))
  have h12 : (w.alloc (.cells #[.int .u16 0, .int .u16 0, .int .u8 0, .int .i64 0, .slice none 0 0] 26)).cell? ⟨b, off + 12, none⟩ = some (.int .u8 (bs[12]?.getD 0)) := (B0.out.cell (p := ⟨b, off + 12, none⟩) hbw).trans (hcz 12 (by rw [HL.out]; omega))
  clear hcz
  have TH : Hid (thl bs = bs[12]?.getD 0 / 16 * 4) := Lib.hid rfl
  have TC : Hid (4 * (bs[12]?.getD 0 / 16) = thl bs) := Lib.hid (by unfold thl; omega)
  have hz : 0 ≤ thl bs ∧ thl bs ≤ 60 := by unfold thl; omega
  go_enter Try.func9, Try.ntmps9
  by_cases e2 : thl bs < 20 ∨ (len : Int) < thl bs
  · have HY := Lib.hid (show twhy s d bs = 8 by unfold twhy; rw [if_neg N1.out, if_pos (by rw [HL.out]; exact e2)])
    go_upto_region 4 with (fail)
    rw [TC.out]
    generalize w.alloc (.cells #[.int .u16 0, .int .u16 0, .int .u8 0, .int .i64 0, .slice none 0 0] 26) = W0 at *
    by_cases e3 : thl bs < 20
    · have p3 : decide (thl bs < 20) = true := decide_eq_true e3
      go_wp2
      refine bodyPost_ret (results_tcp rfl _ _ w.heap.size _ (0, 0) rfl (full_setCells C0.out [.int .u16 0, .int .u16 0, .int .u8 0, .int .i64 0, .slice none 0 0] rfl) rfl) rfl ?_
      exact .inl ⟨by rw [HY.out]; decide, by rw [HY.out]; rfl, below_setCells w.heap.size (Nat.le_refl _) [.int .u16 0, .int .u16 0, .int .u8 0, .int .i64 0, .slice none 0 0] 0 w _ B0.out⟩
    · have p3 : decide (thl bs < 20) = false := decide_eq_false e3
      have p4 : decide ((len : Int) < thl bs) = true := decide_eq_true (by omega)
      go_wp2
      refine bodyPost_ret (results_tcp rfl _ _ w.heap.size _ (0, 0) rfl (full_setCells C0.out [.int .u16 0, .int .u16 0, .int .u8 0, .int .i64 0, .slice none 0 0] rfl) rfl) rfl ?_
      exact .inl ⟨by rw [HY.out]; decide, by rw [HY.out]; rfl, below_setCells w.heap.size (Nat.le_refl _) [.int .u16 0, .int .u16 0, .int .u8 0, .int .i64 0, .slice none 0 0] 0 w _ B0.out⟩
  have N2 := Lib.hid (show ¬ (thl bs < 20 ∨ (bs.length : Int) < thl bs) by rw [HL.out]; exact e2)
  have p3 : decide (thl bs < 20) = false := decide_eq_false (by omega)
  have p4 : decide ((len : Int) < thl bs) = false := decide_eq_false (by omega)
  have R0 := Lib.hid (hR.step B0.out)
  go_upto_region 4 with (fail)
  rw [TC.out]
  generalize w.alloc (.cells #[.int .u16 0, .int .u16 0, .int .u8 0, .int .i64 0, .slice none 0 0] 26) = W0 at *
  clear h12
  by_cases e4 : tsum s d bs = 65535
  case neg =>
    have HY := Lib.hid (show twhy s d bs = 9 by unfold twhy; rw [if_neg N1.out, if_neg N2.out, if_pos e4])
    have p5 : (tsum s d bs == 65535) = false := by simp [e4]
    clear e4
    go_wp2_with (go_at_call 23; refine (rtright_any s d hs hd' _ len cap bs HL.out hln W0 R0.out (fun h => by cases h)).mono ?_; rintro e w1 ⟨he, m1⟩; rw [p5] at he; subst he; have D1 := (m1.block _ (Array.getElem?_eq_some_iff.1 C0.out).1).trans C0.out; obtain ⟨z0, z1, z2, z3, z4⟩ := tcp_cells _ _ _ _ _ _ _ D1; have g0 := tcp_frozen D1 0; have g1 := tcp_frozen D1 1; have g2 := tcp_frozen D1 2; have g3 := tcp_frozen D1 3; have g4 := tcp_frozen D1 4; have HD1 := Lib.hid D1; clear D1)
    refine bodyPost_ret (results_tcp rfl _ _ w.heap.size _ (0, 0) rfl (full_setCells HD1.out [.int .u16 0, .int .u16 0, .int .u8 0, .int .i64 0, .slice none 0 0] rfl) rfl) rfl ?_
    exact .inl ⟨by rw [HY.out]; decide, by rw [HY.out]; rfl, below_setCells w.heap.size (Nat.le_refl _) [.int .u16 0, .int .u16 0, .int .u8 0, .int .i64 0, .slice none 0 0] 0 w _ (B0.out.trans (m1.mono B0.out.size))⟩
  case pos =>
    have HY := Lib.hid (show twhy s d bs = 0 by unfold twhy; rw [if_neg N1.out, if_neg N2.out, if_neg (by rw [e4]; simp)])
    have p5 : (tsum s d bs == 65535) = true := by simp [e4]
    clear e4
    go_wp2_with (go_at_call 23; refine (rtright_any s d hs hd' _ len cap bs HL.out hln W0 R0.out (fun h => by cases h)).mono ?_; rintro e w1 ⟨he, m1⟩; rw [p5] at he; subst he)
    have D1 := (m1.block _ (Array.getElem?_eq_some_iff.1 C0.out).1).trans C0.out
    have HD1 := Lib.hid D1
    have L1 := B0.out.trans (m1.mono B0.out.size)
    have HL1 := Lib.hid L1
    clear q0 q1 q2 q3 q4 f0 f1 f2 f3 f4 D1 m1
    obtain ⟨th, hth⟩ : ∃ k, thl bs = k := ⟨_, rfl⟩
    rw [hth] at hz e2
    rw [hth]
    have TK := Lib.hid hth
    clear hth TC TH p3 p4 e1 p1 p2
    have hl1 : (0 : Int) ≤ th := by omega
    have hl2 : th ≤ (cap : Int) := by omega
    have hl3 : th ≤ (len : Int) := by omega
    have hp9 : (bs.drop th.toNat).length = len - th.toNat := by rw [List.length_drop, HL.out]
    obtain ⟨ad, hAP⟩ : ∃ ad : Addr, (if cap = th.toNat then some (⟨b, off, none⟩ : Addr) else some ⟨b, off + th.toNat, none⟩) = some ad := by split <;> exact ⟨_, rfl⟩
    obtain ⟨PS, hPS⟩ : ∃ l, bs.drop th.toNat = l := ⟨_, rfl⟩
    have RP := Lib.hid (fun W' (m : Below w.heap.size w W') => show Row .u8 w.heap.size W' (some ad) PS by
      have := ((hR.below m).dropIf th.toNat (c := cap = th.toNat) (fun h => List.eq_nil_of_length_eq_zero (by rw [hp9]; omega)))
      rw [hAP, hPS] at this
      exact this)
    rw [hPS] at hp9
    have HP9 := Lib.hid hp9
    have HPS := Lib.hid hPS
    clear hPS hp9
    have x0 : (0 : Int) < (len : Int) := by omega
    have x0' : 0 < len := by omega
    have x1 : (1 : Int) < (len : Int) := by omega
    have x2 : (2 : Int) < (len : Int) := by omega
    have x3 : (3 : Int) < (len : Int) := by omega
    have x13 : (13 : Int) < (len : Int) := by omega
    have hbne : b ≠ w.heap.size := Nat.ne_of_lt hbw
    have N0 : Below w.heap.size w w1.drew := L1.drew
    have NA : Below w.heap.size w (w1.drew.alloc (.cells #[] 5)) := N0.alloc L1.size _
    have NB : Below w.heap.size w (w1.alloc (.cells #[] 5)).drew := (L1.alloc L1.size _).drew
    have hlt1 : w.heap.size < w1.heap.size := (Array.getElem?_eq_some_iff.1 HD1.out).1
    obtain ⟨i0, hi, hz0', hz1, hz2⟩ := info_parts Try.infoU8
    have OA : (w1.drew.alloc (.cells #[] 5)).ownsRow w1.heap.size 5 1 (.slice (some ⟨w1.heap.size, 0, none⟩) 0 0) 0 [] := own_built w1.drew w1.heap.size (Nat.le_refl _) 5 [] 0 rfl (by unfold maxLen; omega)
    have OA := Lib.hid OA
    clear e2 L1
    go_region_held3 (fun w' => w'.cell? ⟨b, off, none⟩ = some (.int .u8 (bs[0]?.getD 0)) ∧ w'.cell? ⟨b, off + 1, none⟩ = some (.int .u8 (bs[1]?.getD 0)) ∧ w'.cell? ⟨b, off + 2, none⟩ = some (.int .u8 (bs[2]?.getD 0)) ∧ w'.cell? ⟨b, off + 3, none⟩ = some (.int .u8 (bs[3]?.getD 0)) ∧ w'.cell? ⟨b, off + 13, none⟩ = some (.int .u8 (bs[13]?.getD 0))) (first | with_reducible exact CS.out _ NA | with_reducible exact CS.out _ NB | with_reducible exact HC10 | with_reducible exact ⟨cell_s5 hbne HC10.1, cell_s5 hbne HC10.2.1, cell_s5 hbne HC10.2.2.1, cell_s5 hbne HC10.2.2.2.1, cell_s5 hbne HC10.2.2.2.2⟩ | with_reducible exact CS.out _ N0)
      (first
        | (refine step_append_some _ (by rfl) _ _ _ (by rfl) w1.heap.size 5 i0 (.int .u8 0) 1 Try.underlying23 hi hz0' hz1 hz2 rfl (.slice (some ⟨w1.heap.size, 0, none⟩) 0 0) 0 [] (by rfl) OA.out ad (len - th.toNat) (cap - th.toNat) (PS.map (Value.int .u8)) (by rfl) (by rw [List.length_map, HP9.out]) (row_cells (RP.out _ NA)) (one_u8 _) (by unfold maxLen; omega) (by omega) (by simp) ?_; intro v10 w10 O10 hg10; simp only [Nat.zero_add, List.nil_append] at O10; have M10 : Below w1.heap.size w1 w10 := (below_drew ((Below.refl _ w1.drew).alloc (Nat.le_refl _) _)).grown hg10 (by simp) (fun e he => by cases he; exact Nat.le_refl _); obtain ⟨A10, c10, rfl⟩ := own_slice O10; have N10 : Below w.heap.size w w10 := HL1.out.trans (M10.mono HL1.out.size); have D10 := (M10.block _ hlt1).trans HD1.out; obtain ⟨z0, z1, z2, z3, z4⟩ := tcp_cells _ _ _ _ _ _ _ D10; have g0 := tcp_frozen D10 0; have g1 := tcp_frozen D10 1; have g2 := tcp_frozen D10 2; have g3 := tcp_frozen D10 3; have g4 := tcp_frozen D10 4; have HD10 := Lib.hid D10; clear D10; have HC10 := CS.out _ N10))
    have ew : ∀ x y : Int, 0 ≤ x ∧ x ≤ 255 → 0 ≤ y ∧ y ≤ 255 → IntKind.u16.wrap (IntKind.i64.wrap (IntKind.i64.wrap (IntKind.i64.wrap x * 256) + IntKind.i64.wrap y)) = 256 * x + y := fun x y h1 h2 => by
      rw [IntWalk.i64_in x (by omega), IntWalk.i64_in (x * 256) (by omega), IntWalk.i64_in y (by omega), IntWalk.i64_in _ (by omega), IntWalk.u16_in _ (by omega)]
      omega
    have w0 : IntKind.u16.wrap (IntKind.i64.wrap (IntKind.i64.wrap (IntKind.i64.wrap (bs[0]?.getD 0) * 256) + IntKind.i64.wrap (bs[1]?.getD 0))) = wordAt bs 0 := ew _ _ b0 b1
    have w1' : IntKind.u16.wrap (IntKind.i64.wrap (IntKind.i64.wrap (IntKind.i64.wrap (bs[2]?.getD 0) * 256) + IntKind.i64.wrap (bs[3]?.getD 0))) = wordAt bs 1 := ew _ _ b2 b3
    rw [w0, w1']
    clear w0 w1' ew z0 z1 z2 z3 z4 g0 g1 g2 g3 g4
    have C12 := full_setCells HD10.out [.int .u16 (wordAt bs 0), .int .u16 (wordAt bs 1), .int .u8 (bs[13]?.getD 0), .int .i64 th, .slice A10 (len - th.toNat) c10] rfl
    have L12 := below_setCells w.heap.size (Nat.le_refl _) [.int .u16 (wordAt bs 0), .int .u16 (wordAt bs 1), .int .u8 (bs[13]?.getD 0), .int .i64 th, .slice A10 (len - th.toNat) c10] 0 w _ N10
    have O12 := own_apartN (by decide) [.int .u16 (wordAt bs 0), .int .u16 (wordAt bs 1), .int .u8 (bs[13]?.getD 0), .int .i64 th, .slice A10 (len - th.toNat) c10] 0 _ _ O10 HD10.out
    have hE : bs.drop (thl bs).toNat = PS := by rw [TK.out]; exact HPS.out
    have hsz : w.heap.size ≤ w1.heap.size := HL1.out.size
    go_wp2
    refine bodyPost_ret (results_tcp rfl _ _ w.heap.size _ (0, 0) rfl C12 rfl) rfl ?_
    unfold TParseRet
    rw [hE, TK.out, HP9.out]
    exact .inr ⟨HY.out, A10, c10, rfl, own_base O12 hsz, L12⟩
end Go.Proofs.Ytclofmgnnohhpaa
