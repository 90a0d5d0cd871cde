/- What is put is taken, what is taken was put: plain facts. -/
import Derived.Test.YthgoopdekllanaaShQ
import Derived.Test.YthgoopdekllanaaShE
import Derived.Test.YthgoopdekllanaaShD
namespace Go.Proofs.Ythgoopdekllanaa
open Go.RowKit Go.Shelf
open SumM

theorem be_succ (k : Nat) (n : Int) : be (k + 1) n = be k (n / 256) ++ [n % 256] := by
  unfold be upto
  rw [List.range_succ, List.map_append]
  congr 1
  · apply List.map_congr_left
    intro i hi
    have hik := List.mem_range.1 hi
    rw [Int.ediv_ediv_of_nonneg (by decide), show k + 1 - 1 - i = (k - 1 - i) + 1 by omega, Int.pow_succ, Int.mul_comm]
  · simp
theorem be_zero (n : Int) : be 0 n = [] := rfl
theorem numOf_be : ∀ (k : Nat) (n : Int), 0 ≤ n → n < (256 : Int) ^ k → numOf (be k n) = n
  | 0, n, h0, h1 => by
    simp at h1
    have : n = 0 := by omega
    subst this
    rfl
  | k + 1, n, h0, h1 => by
    rw [be_succ, numOf_snoc, numOf_be k (n / 256) (by omega) (by rw [Int.pow_succ] at h1; omega)]
    omega
theorem be_numOf (l : List Int) (h : In 255 l) : be l.length (numOf l) = l := by
  obtain ⟨n, hn⟩ : ∃ n, l.length = n := ⟨_, rfl⟩
  induction n generalizing l with
  | zero => rw [List.length_eq_zero_iff.1 hn]; rfl
  | succ n ih =>
    have hne : l ≠ [] := by intro e; rw [e] at hn; simp at hn
    have e := (List.dropLast_concat_getLast hne).symm
    have hx := h (l.getLast hne) (List.getLast_mem hne)
    have hin : In 255 l.dropLast := fun x hx => h x (List.dropLast_subset _ hx)
    have hl : l.dropLast.length = n := by rw [List.length_dropLast]; omega
    generalize l.getLast hne = x at *
    generalize l.dropLast = r at *
    subst e
    rw [List.length_append, List.length_singleton, numOf_snoc, be_succ, show (numOf r * 256 + x) / 256 = numOf r by omega, show (numOf r * 256 + x) % 256 = x by omega, ih r hin hl]
theorem be_num {l : List Int} (h : In 255 l) {k : Nat} (hk : l.length = k) : be k (numOf l) = l := by rw [← hk]; exact be_numOf l h

/-- The parts of a sheet's bytes. -/
theorem shB_parts (ba tv : Int) (rs : List SR) : ((shB ba tv rs).drop 0).take 6 = be 6 (ba + 1) ∧ ((shB ba tv rs).drop 6).take 6 = be 6 tv ∧ ((shB ba tv rs).drop 12).take 1 = be 1 rs.length ∧ (shB ba tv rs).drop 13 = rs.flatMap rowB := by
  have h1 : (be 6 (ba + 1)).length = 6 := be_length _ _
  have h2 : (be 6 tv).length = 6 := be_length _ _
  have h3 : (be 1 (rs.length : Int)).length = 1 := be_length _ _
  unfold shB
  generalize be 6 (ba + 1) = A at *
  generalize be 6 tv = B at *
  generalize be 1 (rs.length : Int) = C at *
  generalize rs.flatMap rowB = D at *
  refine ⟨?_, ?_, ?_, ?_⟩
  · rw [List.drop_zero, List.append_assoc, List.append_assoc, List.take_append_of_le_length (by omega), List.take_of_length_le (by omega)]
  · rw [List.append_assoc, List.append_assoc, List.drop_append_of_le_length (by omega), List.drop_of_length_le (by omega), List.nil_append, List.take_append_of_le_length (by omega), List.take_of_length_le (by omega)]
  · rw [List.append_assoc (A ++ B), List.drop_append_of_le_length (by rw [List.length_append]; omega), List.drop_of_length_le (by rw [List.length_append]; omega), List.nil_append, List.take_append_of_le_length (by omega), List.take_of_length_le (by omega)]
  · rw [List.drop_append_of_le_length (by simp; omega), List.drop_of_length_le (by simp; omega), List.nil_append]
theorem rowB_parts (r : SR) : (rowB r).take 1 = be 1 r.1 ∧ ((rowB r).drop 1).take 1 = be 1 (r.2.1 + 1) ∧ ((rowB r).drop 2).take 1 = be 1 (r.2.2.1 + 1) ∧ ((rowB r).drop 3).take 4 = be 4 r.2.2.2.1 ∧ ((rowB r).drop 7).take 6 = be 6 r.2.2.2.2 := by
  have h1 : (be 1 r.1).length = 1 := be_length _ _
  have h2 : (be 1 (r.2.1 + 1)).length = 1 := be_length _ _
  have h3 : (be 1 (r.2.2.1 + 1)).length = 1 := be_length _ _
  have h4 : (be 4 r.2.2.2.1).length = 4 := be_length _ _
  have h5 : (be 6 r.2.2.2.2).length = 6 := be_length _ _
  unfold rowB
  generalize be 1 r.1 = A at *
  generalize be 1 (r.2.1 + 1) = B at *
  generalize be 1 (r.2.2.1 + 1) = C at *
  generalize be 4 r.2.2.2.1 = D at *
  generalize be 6 r.2.2.2.2 = E at *
  simp only [List.append_assoc]
  refine ⟨?_, ?_, ?_, ?_, ?_⟩
  · rw [List.take_append_of_le_length (by omega), List.take_of_length_le (by omega)]
  · rw [List.drop_append_of_le_length (by omega), List.drop_of_length_le (by omega), List.nil_append, List.take_append_of_le_length (by omega), List.take_of_length_le (by omega)]
  · rw [← List.append_assoc, List.drop_append_of_le_length (by simp; omega), List.drop_of_length_le (by simp; omega), List.nil_append, List.take_append_of_le_length (by omega), List.take_of_length_le (by omega)]
  · rw [← List.append_assoc, ← List.append_assoc, List.drop_append_of_le_length (by simp; omega), List.drop_of_length_le (by simp; omega), List.nil_append, List.take_append_of_le_length (by omega), List.take_of_length_le (by omega)]
  · rw [← List.append_assoc, ← List.append_assoc, ← List.append_assoc, List.drop_append_of_le_length (by simp; omega), List.drop_of_length_le (by simp; omega), List.nil_append, List.take_of_length_le (by omega)]
theorem rowOf_rowB {r : SR} (h : (0 ≤ r.1 ∧ r.1 < 16) ∧ rgE r.2 = true) : rowOf (rowB r) = r := by
  obtain ⟨h1, h2, h3, h4, h5⟩ := rowB_parts r
  have := rgt_iff.1 h.2
  unfold rowOf
  rw [h1, h2, h3, h4, h5, numOf_be 1 r.1 (by omega) (by omega), numOf_be 1 _ (by omega) (by omega), numOf_be 1 _ (by omega) (by omega), numOf_be 4 _ (by omega) (by omega), numOf_be 6 _ (by omega) (by omega)]
  obtain ⟨a, b, c, d, e⟩ := r
  simp
theorem flat_at : ∀ (rs : List SR) (k : Nat), k < rs.length → ((rs.flatMap rowB).drop (13 * k)).take 13 = rowB (rs[k]?.getD sr0)
  | [], k, h => by simp at h
  | r :: t, 0, _ => by
    rw [List.flatMap_cons, Nat.mul_zero, List.drop_zero, List.take_append_of_le_length (by rw [rowB_len]; omega), List.take_of_length_le (by rw [rowB_len]; omega)]
    rfl
  | r :: t, k + 1, h => by
    rw [List.flatMap_cons, show 13 * (k + 1) = (rowB r).length + 13 * k by rw [rowB_len]; omega, ← List.drop_drop, List.drop_left, flat_at t k (by simpa using h)]
    rfl
theorem rowsOf_flat {rs : List SR} (h : ∀ r ∈ rs, (0 ≤ r.1 ∧ r.1 < 16) ∧ rgE r.2 = true) : rowsOf rs.length (rs.flatMap rowB) = rs := by
  apply List.ext_getElem (by rw [rowsOf_len])
  intro k h1 h2
  have := rowsOf_get (rs.flatMap rowB) h2
  rw [List.getElem?_eq_getElem h1, flat_at rs k h2, List.getElem?_eq_getElem h2] at this
  simp only [Option.getD_some] at this
  rw [this, rowOf_rowB (h _ (List.getElem_mem h2))]
theorem hv_shB {ba tv : Int} {rs : List SR} (h : shOk ba tv rs = true) : hv (shB ba tv rs) 0 = ba ∧ hv (shB ba tv rs) 1 = tv ∧ hv (shB ba tv rs) 2 = rs.length := by
  obtain ⟨g1, g2, g3, g4⟩ := shOk_iff h
  obtain ⟨p1, p2, p3, p4⟩ := shB_parts ba tv rs
  refine ⟨?_, ?_, ?_⟩
  · show numOf (((shB ba tv rs).drop 0).take 6) - 1 = ba
    rw [p1, numOf_be 6 _ (by omega) (by omega)]
    omega
  · show numOf (((shB ba tv rs).drop 6).take 6) - 0 = tv
    rw [p2, numOf_be 6 _ (by omega) (by omega)]
    omega
  · show numOf (((shB ba tv rs).drop 12).take 1) - 0 = (rs.length : Int)
    rw [p3, numOf_be 1 _ (by omega) (by omega)]
    omega
/-- What is put is taken. -/
theorem put_tk {ba tv : Int} {rs : List SR} (h : shOk ba tv rs = true) : tkS (shB ba tv rs) = (ba, tv, rs, 0) := by
  obtain ⟨g1, g2, g3, g4⟩ := shOk_iff h
  obtain ⟨v0, v1, v2⟩ := hv_shB h
  have hl := shB_len ba tv rs
  unfold tkS
  rw [v0, v1, v2, hl, Int.toNat_natCast, if_neg (by omega), if_neg (by omega), if_neg (by omega), (shB_parts ba tv rs).2.2.2, rowsOf_flat (fun r hr => rises_mem rs (-1) (by omega) g4 r hr), if_pos h]
theorem numOf_one (x : Int) : numOf [x] = x := by simp [numOf]
theorem hv2 {bs : List Int} (h : 13 ≤ bs.length) : hv bs 2 = bs[12]?.getD 0 := by
  show numOf ((bs.drop 12).take 1) - 0 = _
  rw [List.drop_eq_getElem_cons (by omega), List.take_succ_cons, List.take_zero, numOf_one, List.getElem?_eq_getElem (by omega)]
  simp
/-- A byte fewer is too few; one more is none. -/
theorem put_less {ba tv : Int} {rs : List SR} (h : shOk ba tv rs = true) : tkS ((shB ba tv rs).take (12 + 13 * rs.length)) = (0, 0, [], 61) := by
  have hl := shB_len ba tv rs
  have hlt : ((shB ba tv rs).take (12 + 13 * rs.length)).length = 12 + 13 * rs.length := by rw [List.length_take]; omega
  unfold tkS
  rw [hlt]
  by_cases h0 : rs.length = 0
  · rw [if_pos (by omega)]
  · have e : hv ((shB ba tv rs).take (12 + 13 * rs.length)) 2 = rs.length := by
      rw [← (hv_shB h).2.2, hv2 (by rw [hlt]; omega), hv2 (by omega), List.getElem?_take, if_pos (by omega)]
    rw [if_neg (by omega), e, Int.toNat_natCast, if_pos (by omega)]
theorem put_more {ba tv : Int} {rs : List SR} (h : shOk ba tv rs = true) (x : Int) : tkS (shB ba tv rs ++ [x]) = (0, 0, [], 60) := by
  have hl := shB_len ba tv rs
  have e : hv (shB ba tv rs ++ [x]) 2 = rs.length := by
    rw [← (hv_shB h).2.2, hv2 (by simp; omega), hv2 (by omega), List.getElem?_append_left (by omega)]
  unfold tkS
  rw [List.length_append, List.length_singleton, hl, e, Int.toNat_natCast, if_neg (by omega), if_neg (by omega), if_pos (by omega)]
theorem put_inj {ba tv ba' tv' : Int} {rs rs' : List SR} (h : shOk ba tv rs = true) (h' : shOk ba' tv' rs' = true) : eqB (shB ba tv rs) (shB ba' tv' rs') = smS ba tv rs ba' tv' rs' := by
  refine Bool.iffEq ?_
  rw [eqB_true]
  simp only [smS, decide_eq_true_eq]
  constructor
  · intro e
    have := put_tk h
    rw [e, put_tk h'] at this
    simp only [Prod.mk.injEq] at this
    exact ⟨this.1.symm, this.2.1.symm, this.2.2.1.symm⟩
  · rintro ⟨rfl, rfl, rfl⟩
    rfl
theorem flat_rows : ∀ (m : Nat) (b : List Int), b.length = 13 * m → (List.range m).flatMap (fun k => (b.drop (13 * k)).take 13) = b
  | 0, b, h => by rw [List.length_eq_zero_iff.1 (by omega : b.length = 0)]; rfl
  | m + 1, b, h => by
    rw [List.range_succ_eq_map, List.flatMap_cons, List.flatMap_map]
    have := flat_rows m (b.drop 13) (by rw [List.length_drop]; omega)
    have e : (fun a => ((b.drop (13 * (a + 1))).take 13)) = fun k => (((b.drop 13).drop (13 * k)).take 13) := by
      funext k
      rw [List.drop_drop, show 13 + 13 * k = 13 * (k + 1) by omega]
    show (b.drop (13 * 0)).take 13 ++ (List.range m).flatMap (fun a => ((b.drop (13 * (a + 1))).take 13)) = b
    rw [e, this]
    simp
theorem rowB_rowOf {c : List Int} (h : In 255 c) (hl : c.length = 13) : rowB (rowOf c) = c := by
  unfold rowB rowOf
  simp only [Int.sub_add_cancel]
  rw [be_num (in_take h _) (by rw [List.length_take]; omega), be_num (in_take (in_drop h _) _) (by rw [List.length_take, List.length_drop]; omega), be_num (in_take (in_drop h _) _) (by rw [List.length_take, List.length_drop]; omega), be_num (in_take (in_drop h _) _) (by rw [List.length_take, List.length_drop]; omega), be_num (in_take (in_drop h _) _) (by rw [List.length_take, List.length_drop]; omega)]
  match c, hl with
  | [a0, a1, a2, a3, a4, a5, a6, a7, a8, a9, b0, b1, b2], _ => rfl
/-- What is taken was put so. -/
theorem tk_put {bs : List Int} (hi : In 255 bs) {x y : Int} {rs : List SR} (h : tkS bs = (x, y, rs, 0)) : shOk x y rs = true ∧ shB x y rs = bs := by
  unfold tkS at h
  by_cases h1 : bs.length < 13
  · rw [if_pos h1] at h; simp at h
  rw [if_neg h1] at h
  by_cases h2 : bs.length < 13 + 13 * (hv bs 2).toNat
  · rw [if_pos h2] at h; simp at h
  rw [if_neg h2] at h
  by_cases h3 : 13 + 13 * (hv bs 2).toNat < bs.length
  · rw [if_pos h3] at h; simp at h
  rw [if_neg h3] at h
  by_cases h4 : shOk (hv bs 0) (hv bs 1) (rowsOf (hv bs 2).toNat (bs.drop 13)) = true
  · rw [if_pos h4] at h
    simp only [Prod.mk.injEq, and_true] at h
    obtain ⟨rfl, rfl, rfl⟩ := h
    refine ⟨h4, ?_⟩
    have hv0 : 0 ≤ hv bs 2 := by
      have := num_lt ((bs.drop 12).take 1) (in_take (in_drop hi _) _) 1 (by rw [List.length_take]; omega)
      show 0 ≤ numOf ((bs.drop 12).take 1) - 0
      omega
    have e0 : hv bs 0 + 1 = numOf ((bs.drop 0).take 6) := by show numOf ((bs.drop 0).take 6) - 1 + 1 = _; omega
    have e1 : hv bs 1 = numOf ((bs.drop 6).take 6) := by show numOf ((bs.drop 6).take 6) - 0 = _; omega
    have e2 : hv bs 2 = numOf ((bs.drop 12).take 1) := by show numOf ((bs.drop 12).take 1) - 0 = _; omega
    unfold shB
    rw [rowsOf_len, Int.toNat_of_nonneg hv0, e0, e1, e2, be_num (in_take (in_drop hi _) _) (by rw [List.length_take, List.length_drop]; omega), be_num (in_take (in_drop hi _) _) (by rw [List.length_take, List.length_drop]; omega), be_num (in_take (in_drop hi _) _) (by rw [List.length_take, List.length_drop]; omega)]
    rw [← e2]
    have hfl : (rowsOf (hv bs 2).toNat (bs.drop 13)).flatMap rowB = bs.drop 13 := by
      have hlen : (bs.drop 13).length = 13 * (hv bs 2).toNat := by rw [List.length_drop]; omega
      have := flat_rows (hv bs 2).toNat (bs.drop 13) hlen
      refine Eq.trans ?_ this
      unfold rowsOf
      rw [List.flatMap_map]
      rw [List.flatMap_def, List.flatMap_def]
      congr 1
      refine List.map_congr_left fun k hk => ?_
      have hk := List.mem_range.1 hk
      exact rowB_rowOf (in_take (in_drop (in_drop hi _) _) _) (by rw [List.length_take, List.length_drop]; omega)
    rw [hfl, List.drop_zero]
    have t1 : bs.take 6 ++ (bs.drop 6).take 6 = bs.take 12 := by rw [show (12 : Nat) = 6 + 6 from rfl, List.take_add]
    have t2 : bs.take 12 ++ (bs.drop 12).take 1 = bs.take 13 := by rw [show (13 : Nat) = 12 + 1 from rfl, List.take_add]
    rw [t1, t2, List.take_append_drop]
  · rw [if_neg h4] at h; simp at h
/-- Which error. -/
theorem tk_err {bs : List Int} (h : (tkS bs).2.2.2 ≠ 0) : (tkS bs = (0, 0, [], 61) ∧ (bs.length < 13 ∨ bs.length < 13 + 13 * (hv bs 2).toNat)) ∨ (tkS bs = (0, 0, [], 60) ∧ ¬ bs.length < 13 ∧ ¬ bs.length < 13 + 13 * (hv bs 2).toNat) := by
  unfold tkS at h ⊢
  by_cases h1 : bs.length < 13
  · rw [if_pos h1]; exact .inl ⟨rfl, .inl h1⟩
  rw [if_neg h1] at h ⊢
  by_cases h2 : bs.length < 13 + 13 * (hv bs 2).toNat
  · rw [if_pos h2]; exact .inl ⟨rfl, .inr h2⟩
  rw [if_neg h2] at h ⊢
  refine .inr ⟨?_, h1, h2⟩
  by_cases h3 : 13 + 13 * (hv bs 2).toNat < bs.length
  · rw [if_pos h3]
  rw [if_neg h3] at h ⊢
  by_cases h4 : shOk (hv bs 0) (hv bs 1) (rowsOf (hv bs 2).toNat (bs.drop 13)) = true
  · rw [if_pos h4] at h; exact absurd rfl h
  · rw [if_neg h4]
theorem ShRet.slice {x y z : Int} {rs : List SR} {n : Nat} (hl : rs.length = n) {w w' : World} {e : Ending} (h : ShRet (x, y, rs, z) w e w') : ∃ S c, e = .returned (.tuple #[.agg #[.int .i64 x, .int .i64 y, .slice S n c], .int .i64 z]) ∧ (S = none → c = 0) ∧ n ≤ c ∧ w'.ownsRow w.heap.size 63 5 (.slice S n c) n (flatS rowC rs) ∧ Below w.heap.size w w' := by
  obtain ⟨v, h1, h2, h3⟩ := h
  simp only [hl] at h2
  obtain ⟨S, c, rfl, k1, k2, _⟩ := ownS_slice h2
  exact ⟨S, c, h1, k1, k2, h2, h3⟩

end Go.Proofs.Ythgoopdekllanaa
