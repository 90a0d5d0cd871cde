/- 'handfastlaw04.TupleTexts' returns true at every two tuples, and leaves what lay as it lay. -/
import Derived.Test.YtpbheonapgckfaaDoorTupR
namespace Go.Proofs.YtpbheonapgckfaaDoor
open Go.RowKit Go.Shelf
open SumM

theorem cnt_snoc (l : List Int) (k : Nat) (hk : k < l.length) (s : Int) : (l.take (k + 1)).count s = (l.take k).count s + if l[k]?.getD 0 = s then 1 else 0 := by
  rw [List.take_add_one, List.getElem?_eq_getElem hk, List.count_append]
  simp [List.count_singleton]

theorem str_at (l : List Int) (h : In 255 l) (k : Nat) (hk : k < (strOfNums l).size) : (((strOfNums l)[k]'hk).toNat : Int) = l[k]?.getD 0 := by
  have hk' : k < l.length := by rwa [strOfNums_size] at hk
  have hx := h _ (List.getElem_mem hk')
  show (((strOfNums l).data[k]'hk).toNat : Int) = _
  simp only [strOfNums, List.getElem_toArray, List.getElem_map, List.getElem?_eq_getElem hk', Option.getD_some]
  rw [UInt8.toNat_ofNat_of_lt' (by show (l[k]).toNat < 256; omega)]
  omega

set_option maxRecDepth 100000 in
set_option maxHeartbeats 16000000 in
theorem tupTexts_walk (ts td tp tq : Int) (ts' td' tp' tq' : Int) (w : World) (hT : Tab w) (H : UNums ts td tp tq) (H' : UNums ts' td' tp' tq') :
    Calls Tryd.prog 6 #[.agg #[.int .u32 ts, .int .u32 td, .int .u16 tp, .int .u16 tq], .agg #[.int .u32 ts', .int .u32 td', .int .u16 tp', .int .u16 tq']] w fun e w' => e = .returned (.bool true) ∧ Below w.heap.size w w' := by
  have bB := heap_alloc_new (w.alloc (.cells #[.int .u32 ts, .int .u32 td, .int .u16 tp, .int .u16 tq] 25)) (.cells #[.int .u32 ts', .int .u32 td', .int .u16 tp', .int .u16 tq'] 25)
  rw [World.size_alloc] at bB
  have bA := (Below.heap_alloc (w.alloc (.cells #[.int .u32 ts, .int .u32 td, .int .u16 tp, .int .u16 tq] 25)) (.cells #[.int .u32 ts', .int .u32 td', .int .u16 tp', .int .u16 tq'] 25) w.heap.size (by simp)).trans (heap_alloc_new w (.cells #[.int .u32 ts, .int .u32 td, .int .u16 tp, .int .u16 tq] 25))
  have L0 := ((Below.refl w.heap.size w).alloc (Nat.le_refl _) (.cells #[.int .u32 ts, .int .u32 td, .int .u16 tp, .int .u16 tq] 25)).alloc (by simp) (.cells #[.int .u32 ts', .int .u32 td', .int .u16 tp', .int .u16 tq'] 25)
  have T0 := Lib.hid (hT.step L0 (Nat.le_refl _))
  have HH := Lib.hid (And.intro H H')
  clear H H' hT
  obtain ⟨q0, q1, q2, q3⟩ := tup_cells _ _ _ _ bA
  go_enter Tryd.func6, Tryd.ntmps6
  go_upto_region 1 with (fail)
  generalize (w.alloc (.cells #[.int .u32 ts, .int .u32 td, .int .u16 tp, .int .u16 tq] 25)).alloc (.cells #[.int .u32 ts', .int .u32 td', .int .u16 tp', .int .u16 tq'] 25) = W0 at *
  go_wp2_with (fail)
  refine (tText_any ts td tp tq HH.out.1 W0 T0.out).mono ?_
  rintro e w1 ⟨rfl, m1⟩
  have L1 := L0.trans (m1.mono L0.size)
  have T1 := Lib.hid (T0.out.step m1 (Nat.le_refl _))
  have bA1 := (m1.block _ (Array.getElem?_eq_some_iff.1 bA).1).trans bA
  have bB1 := (m1.block _ (Array.getElem?_eq_some_iff.1 bB).1).trans bB
  have HE := Lib.hid (textL_eq (a := (ts, td, tp, tq)) (b := (ts', td', tp', tq')) HH.out.1 HH.out.2)
  have HI := Lib.hid (And.intro (textL_in ts td tp tq) (textL_in ts' td' tp' tq'))
  have HC := Lib.hid (And.intro (textL_dots ts td tp tq) (And.intro (textL_colons ts td tp tq) (textL_more ts td tp tq)))
  have HS := Lib.hid (textL_signs ts td tp tq)
  have HL := Lib.hid (show (textL ts td tp tq).length ≤ 200000 by
    have h1 := endL_length ts tp HH.out.1.h3
    have h2 := endL_length td tq HH.out.1.h4
    simp [textL]
    omega)
  have KT := Lib.hid (fun W (h : Tab W) => tText_any ts' td' tp' tq' HH.out.2 W h)
  simp only at HE
  clear q0 q1 q2 q3 bA bB m1 L0 T0
  generalize textL ts td tp tq = l at *
  generalize textL ts' td' tp' tq' = l' at *
  go_wp2
  have hsz : (strOfNums l).size = l.length := strOfNums_size l
  have HZ := Lib.hid hsz
  go_loop [6, 7, 8, 9] (fun d c m i => ∃ k : Nat, k ≤ l.length ∧ i = .int .i64 k ∧ d = .int .i64 ((l.take k).count 46 : Nat) ∧ c = .int .i64 ((l.take k).count 58 : Nat) ∧ m = .int .i64 ((l.take k).count 62 : Nat)) (fun _ _ _ i => l.length - (intOf i).toNat)
  case atStart => exact ⟨0, by omega, rfl, rfl, rfl, rfl⟩
  case round =>
    obtain ⟨k, hk, rfl, rfl, rfl, rfl⟩ := hrel
    by_cases hlt : k < l.length
    · have hkz : k < (strOfNums l).size := by rw [hsz]; exact hlt
      have hat := str_at l HI.out.1 k hkz
      have hsg := HS.out (l[k]?.getD 0) (by rw [List.getElem?_eq_getElem hlt, Option.getD_some]; exact List.getElem_mem hlt)
      have cn := Lib.hid (fun s => cnt_snoc l k hlt s)
      have hx : ∃ x, l[k]?.getD 0 = x := ⟨_, rfl⟩
      obtain ⟨x, hx⟩ := hx
      rw [hx] at hat hsg
      have cn' := Lib.hid (fun s => show (l.take (k + 1)).count s = (l.take k).count s + if x = s then 1 else 0 from hx ▸ cn.out s)
      have cl := Lib.hid (fun s => show (l.take k).count s ≤ 200000 from Nat.le_trans (List.count_le_length) (Nat.le_trans (by simp; omega) HL.out))
      have hk2 := HL.out
      clear cn hx HZ hsz HS HC HI
      rcases hsg with rfl | rfl | rfl | ⟨hs1, hs2⟩
      case' inr.inr.inr =>
        have e1 : (x == 46) = false := by simp; omega
        have e2 : (x == 58) = false := by simp; omega
        have e3 : (x == 62) = false := by simp; omega
        have e4 : decide (x < 48) = false := decide_eq_false (by omega)
        have e5 : decide (57 < x) = false := decide_eq_false (by omega)
        have cn46 := cn'.out 46
        have cn58 := cn'.out 58
        have cn62 := cn'.out 62
        rw [if_neg (by omega)] at cn46 cn58 cn62
      case' inl =>
        have cn46 := cn'.out 46
        have cn58 := cn'.out 58
        have cn62 := cn'.out 62
        simp only [reduceIte, Int.reduceEq] at cn46 cn58 cn62
      case' inr.inl =>
        have cn46 := cn'.out 46
        have cn58 := cn'.out 58
        have cn62 := cn'.out 62
        simp only [reduceIte, Int.reduceEq] at cn46 cn58 cn62
      case' inr.inr.inl =>
        have cn46 := cn'.out 46
        have cn58 := cn'.out 58
        have cn62 := cn'.out 62
        simp only [reduceIte, Int.reduceEq] at cn46 cn58 cn62
      all_goals
        have b46 := cl.out 46
        have b58 := cl.out 58
        have b62 := cl.out 62
        clear cl cn'
        generalize (l.take k).count 46 = m46 at *
        generalize (l.take k).count 58 = m58 at *
        generalize (l.take k).count 62 = m62 at *
        have CN := Lib.hid (And.intro cn46 (And.intro cn58 cn62))
        clear cn46 cn58 cn62
        go_wp2_with (fail)
        exact ⟨⟨k + 1, by omega, by go_num, by rw [CN.out.1]; go_num, by rw [CN.out.2.1]; go_num, by rw [CN.out.2.2]; go_num⟩, by simp [intOf]; omega⟩
    · obtain rfl : k = l.length := by omega
      rw [List.take_length, HC.out.1, HC.out.2.1, HC.out.2.2]
      have hE : ((strOfNums l).toList == (strOfNums l').toList) = decide ((ts, td, tp, tq) = (ts', td', tp', tq')) := by rw [← HE.out]; exact str_eq HI.out.1 HI.out.2
      clear HE HC HS HI hsz HZ hk hlt
      generalize strOfNums l' = X' at *
      have hsz : (strOfNums l).size = l.length := strOfNums_size l
      generalize strOfNums l = X at *
      generalize l.length = len at *
      have n0 := (Below.refl w1.heap.size w1).drew
      have CR := Lib.hid (fun W (m : Below w1.heap.size w1 W) => And.intro (tup_cells _ _ _ _ ((m.block _ (Array.getElem?_eq_some_iff.1 bA1).1).trans bA1)) (tup_cells _ _ _ _ ((m.block _ (Array.getElem?_eq_some_iff.1 bB1).1).trans bB1)))
      have hcase : (ts = ts' ∧ td = td' ∧ tp = tp' ∧ tq = tq') ∨ (ts = ts' ∧ td = td' ∧ tp = tp' ∧ tq ≠ tq') ∨ (ts = ts' ∧ td = td' ∧ tp ≠ tp') ∨ (ts = ts' ∧ td ≠ td') ∨ ts ≠ ts' := by omega
      have TK := Lib.hid (fun W (m : Below w1.heap.size w1 W) => And.intro (KT.out W (T1.out.step m (Nat.le_refl _))) (uwakes_any W (T1.out.step m (Nat.le_refl _))))
      clear bA1 bB1 T1 KT
      rcases hcase with ⟨rfl, rfl, rfl, rfl⟩ | ⟨rfl, rfl, rfl, ee⟩ | ⟨rfl, rfl, ee⟩ | ⟨rfl, ee⟩ | ee
      all_goals
        first
          | (have p2 : (X.toList == X'.toList) = true := by rw [hE]; exact decide_eq_true rfl)
          | (have p2 : (X.toList == X'.toList) = false := by rw [hE]; exact decide_eq_false (by simp [ee]))
        clear hE
        go_wp2_with (fail)
      · go_region_held3 (fun W => (W.cell? ⟨w.heap.size, 0, none⟩ = some (.int .u32 ts) ∧ W.cell? ⟨w.heap.size, 1, none⟩ = some (.int .u32 td) ∧ W.cell? ⟨w.heap.size, 2, none⟩ = some (.int .u16 tp) ∧ W.cell? ⟨w.heap.size, 3, none⟩ = some (.int .u16 tq)) ∧ (W.cell? ⟨w.heap.size + 1, 0, none⟩ = some (.int .u32 ts) ∧ W.cell? ⟨w.heap.size + 1, 1, none⟩ = some (.int .u32 td) ∧ W.cell? ⟨w.heap.size + 1, 2, none⟩ = some (.int .u16 tp) ∧ W.cell? ⟨w.heap.size + 1, 3, none⟩ = some (.int .u16 tq)))
          (first | with_reducible exact CR.out _ n2 | with_reducible exact CR.out _ n1 | with_reducible exact CR.out _ n0)
          (first
            | (go_at_call 19; (with_reducible refine ((TK.out w1.drew n0).1).mono ?_); rintro e v1 ⟨rfl, j1⟩; have n1 := n0.trans (j1.mono n0.size))
            | (go_at_call 8; (with_reducible refine ((TK.out v1 n1).2).mono ?_); rintro e v2 ⟨rfl, j2⟩; have n2 := n1.trans (j2.mono n1.size)))
        go_wp2
        go_ret
        exact ⟨rfl, L1.trans (n2.mono L1.size)⟩
      · go_region_held3 (fun W => (W.cell? ⟨w.heap.size, 0, none⟩ = some (.int .u32 ts) ∧ W.cell? ⟨w.heap.size, 1, none⟩ = some (.int .u32 td) ∧ W.cell? ⟨w.heap.size, 2, none⟩ = some (.int .u16 tp) ∧ W.cell? ⟨w.heap.size, 3, none⟩ = some (.int .u16 tq)) ∧ (W.cell? ⟨w.heap.size + 1, 0, none⟩ = some (.int .u32 ts) ∧ W.cell? ⟨w.heap.size + 1, 1, none⟩ = some (.int .u32 td) ∧ W.cell? ⟨w.heap.size + 1, 2, none⟩ = some (.int .u16 tp) ∧ W.cell? ⟨w.heap.size + 1, 3, none⟩ = some (.int .u16 tq')))
          (first | with_reducible exact CR.out _ n2 | with_reducible exact CR.out _ n1 | with_reducible exact CR.out _ n0)
          (first
            | (go_at_call 19; (with_reducible refine ((TK.out w1.drew n0).1).mono ?_); rintro e v1 ⟨rfl, j1⟩; have n1 := n0.trans (j1.mono n0.size))
            | (go_at_call 8; (with_reducible refine ((TK.out v1 n1).2).mono ?_); rintro e v2 ⟨rfl, j2⟩; have n2 := n1.trans (j2.mono n1.size)))
        go_wp2
        go_ret
        exact ⟨rfl, L1.trans (n2.mono L1.size)⟩
      · go_region_held3 (fun W => (W.cell? ⟨w.heap.size, 0, none⟩ = some (.int .u32 ts) ∧ W.cell? ⟨w.heap.size, 1, none⟩ = some (.int .u32 td) ∧ W.cell? ⟨w.heap.size, 2, none⟩ = some (.int .u16 tp) ∧ W.cell? ⟨w.heap.size, 3, none⟩ = some (.int .u16 tq)) ∧ (W.cell? ⟨w.heap.size + 1, 0, none⟩ = some (.int .u32 ts) ∧ W.cell? ⟨w.heap.size + 1, 1, none⟩ = some (.int .u32 td) ∧ W.cell? ⟨w.heap.size + 1, 2, none⟩ = some (.int .u16 tp') ∧ W.cell? ⟨w.heap.size + 1, 3, none⟩ = some (.int .u16 tq')))
          (first | with_reducible exact CR.out _ n2 | with_reducible exact CR.out _ n1 | with_reducible exact CR.out _ n0)
          (first
            | (go_at_call 19; (with_reducible refine ((TK.out w1.drew n0).1).mono ?_); rintro e v1 ⟨rfl, j1⟩; have n1 := n0.trans (j1.mono n0.size))
            | (go_at_call 8; (with_reducible refine ((TK.out v1 n1).2).mono ?_); rintro e v2 ⟨rfl, j2⟩; have n2 := n1.trans (j2.mono n1.size)))
        go_wp2
        go_ret
        exact ⟨rfl, L1.trans (n2.mono L1.size)⟩
      · go_region_held3 (fun W => (W.cell? ⟨w.heap.size, 0, none⟩ = some (.int .u32 ts) ∧ W.cell? ⟨w.heap.size, 1, none⟩ = some (.int .u32 td) ∧ W.cell? ⟨w.heap.size, 2, none⟩ = some (.int .u16 tp) ∧ W.cell? ⟨w.heap.size, 3, none⟩ = some (.int .u16 tq)) ∧ (W.cell? ⟨w.heap.size + 1, 0, none⟩ = some (.int .u32 ts) ∧ W.cell? ⟨w.heap.size + 1, 1, none⟩ = some (.int .u32 td') ∧ W.cell? ⟨w.heap.size + 1, 2, none⟩ = some (.int .u16 tp') ∧ W.cell? ⟨w.heap.size + 1, 3, none⟩ = some (.int .u16 tq')))
          (first | with_reducible exact CR.out _ n2 | with_reducible exact CR.out _ n1 | with_reducible exact CR.out _ n0)
          (first
            | (go_at_call 19; (with_reducible refine ((TK.out w1.drew n0).1).mono ?_); rintro e v1 ⟨rfl, j1⟩; have n1 := n0.trans (j1.mono n0.size))
            | (go_at_call 8; (with_reducible refine ((TK.out v1 n1).2).mono ?_); rintro e v2 ⟨rfl, j2⟩; have n2 := n1.trans (j2.mono n1.size)))
        go_wp2
        go_ret
        exact ⟨rfl, L1.trans (n2.mono L1.size)⟩
      · go_region_held3 (fun W => (W.cell? ⟨w.heap.size, 0, none⟩ = some (.int .u32 ts) ∧ W.cell? ⟨w.heap.size, 1, none⟩ = some (.int .u32 td) ∧ W.cell? ⟨w.heap.size, 2, none⟩ = some (.int .u16 tp) ∧ W.cell? ⟨w.heap.size, 3, none⟩ = some (.int .u16 tq)) ∧ (W.cell? ⟨w.heap.size + 1, 0, none⟩ = some (.int .u32 ts') ∧ W.cell? ⟨w.heap.size + 1, 1, none⟩ = some (.int .u32 td') ∧ W.cell? ⟨w.heap.size + 1, 2, none⟩ = some (.int .u16 tp') ∧ W.cell? ⟨w.heap.size + 1, 3, none⟩ = some (.int .u16 tq')))
          (first | with_reducible exact CR.out _ n2 | with_reducible exact CR.out _ n1 | with_reducible exact CR.out _ n0)
          (first
            | (go_at_call 19; (with_reducible refine ((TK.out w1.drew n0).1).mono ?_); rintro e v1 ⟨rfl, j1⟩; have n1 := n0.trans (j1.mono n0.size))
            | (go_at_call 8; (with_reducible refine ((TK.out v1 n1).2).mono ?_); rintro e v2 ⟨rfl, j2⟩; have n2 := n1.trans (j2.mono n1.size)))
        go_wp2
        go_ret
        exact ⟨rfl, L1.trans (n2.mono L1.size)⟩
end Go.Proofs.YtpbheonapgckfaaDoor
