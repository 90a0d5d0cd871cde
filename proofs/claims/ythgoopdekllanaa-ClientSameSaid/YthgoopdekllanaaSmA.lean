/- A table that goes on by changes, and a client that takes its sheets: the numbers. -/
import Derived.Test.YthgoopdekllanaaClE
import Derived.Test.YthgoopdekllanaaShZ
namespace Go.Proofs.Ythgoopdekllanaa
open Go.RowKit Go.Shelf
open SumM

/-- The i-th of the tables. -/
def nth (all : List (Nat → Int)) (i : Nat) : Nat → Int := all[i]?.getD newT
theorem nth_last {all : List (Nat → Int)} (T : Nat → Int) : nth (all ++ [T]) all.length = T := by simp [nth]
theorem nth_left {all : List (Nat → Int)} (T : Nat → Int) {i : Nat} (h : i < all.length) : nth (all ++ [T]) i = nth all i := by
  unfold nth
  rw [List.getElem?_append_left h]
/-- A bucket's row of two tables, one from the other on: of a greater generation, or the same. -/
def Up (T U : Nat → Int) : Prop := ∀ k, k < 16 → (rowT T k).2.2.1 < (rowT U k).2.2.1 ∨ rowT T k = rowT U k
theorem Up.refl (T : Nat → Int) : Up T T := fun _ _ => .inr rfl
theorem Up.trans {T U V : Nat → Int} (h : Up T U) (h' : Up U V) : Up T V := fun k hk => by
  rcases h k hk with a | a <;> rcases h' k hk with b | b
  · exact .inl (Int.lt_trans a b)
  · exact .inl (b ▸ a)
  · exact .inl (a ▸ b)
  · exact .inr (a.trans b)
/-- Tables of a row that goes on. -/
structure Ch (all : List (Nat → Int)) : Prop where
  pos : 0 < all.length
  first : nth all 0 = newT
  ver : ∀ i, i < all.length → nth all i 0 = (i : Int)
  right : ∀ i, i < all.length → rgT (nth all i) = true
  up : ∀ i j, i ≤ j → j < all.length → Up (nth all i) (nth all j)
theorem rg_new0 : rgT newT = true := by kernel_rfl
theorem ch_one : Ch [newT] where
  pos := by simp
  first := rfl
  ver := fun i h => by
    obtain rfl : i = 0 := by simpa using h
    rfl
  right := fun i h => by
    obtain rfl : i = 0 := by simpa using h
    exact rg_new0
  up := fun i j hij h => by
    obtain rfl : j = 0 := by simpa using h
    obtain rfl : i = 0 := by omega
    exact Up.refl _
theorem rowT_upd0 (T : Nat → Int) (x : Int) (i : Nat) : rowT (upd T 0 x) i = rowT T i := by
  unfold rowT upd
  simp only [Prod.mk.injEq]
  refine ⟨?_, ?_, ?_, ?_⟩ <;> rw [if_neg (by omega)]
theorem setOk_iff {T : Nat → Int} {b : Int} {u : Ent} : setOk T b u = true ↔ rgT T = true ∧ rgE u = true ∧ 0 ≤ b ∧ b < 16 ∧ T 0 ≠ 1099511627776 ∧ (rowT T b.toNat).2.2.1 < u.2.2.1 := by
  simp [setOk, and_assoc]
theorem set_up {T : Nat → Int} {b : Int} {u : Ent} (h : setOk T b u = true) : Up T (setV T b u) ∧ rgT (setV T b u) = true ∧ setV T b u 0 = T 0 + 1 := by
  have e : setV T b u = upd (setR T b.toNat u) 0 (T 0 + 1) := by unfold setV; rw [if_pos h]
  obtain ⟨h1, h2, h3, h4, h5, h6⟩ := setOk_iff.1 h
  obtain ⟨⟨v0, v1⟩, hr⟩ := rgT_iff.1 h1
  rw [e]
  refine ⟨fun k hk => ?_, rgT_iff.2 ⟨?_, fun i hi => ?_⟩, by simp [upd]⟩
  · rw [rowT_upd0]
    by_cases hb : k = b.toNat
    · subst hb
      rw [rowT_same]
      exact .inl h6
    · rw [rowT_other _ _ hb]
      exact .inr rfl
  · simp only [upd, if_true]
    omega
  · rw [rowT_upd0]
    by_cases hb : i = b.toNat
    · subst hb
      rw [rowT_same]
      exact h2
    · rw [rowT_other _ _ hb]
      exact hr i hi
theorem ch_snoc {all : List (Nat → Int)} {T : Nat → Int} {b : Int} {u : Ent} (h : Ch all) (hT : nth all (all.length - 1) = T) (hs : setOk T b u = true) : Ch (all ++ [setV T b u]) := by
  obtain ⟨s1, s2, s3⟩ := set_up hs
  have hp := h.pos
  have hl : (all ++ [setV T b u]).length = all.length + 1 := by simp
  have hv := h.ver (all.length - 1) (by omega)
  rw [hT] at hv
  refine ⟨by omega, by rw [nth_left _ hp]; exact h.first, fun i hi => ?_, fun i hi => ?_, fun i j hij hj => ?_⟩
  · by_cases hi2 : i < all.length
    · rw [nth_left _ hi2]
      exact h.ver i hi2
    · obtain rfl : i = all.length := by omega
      rw [nth_last, s3, hv]
      omega
  · by_cases hi2 : i < all.length
    · rw [nth_left _ hi2]
      exact h.right i hi2
    · obtain rfl : i = all.length := by omega
      rw [nth_last]
      exact s2
  · by_cases hj2 : j < all.length
    · rw [nth_left _ hj2, nth_left _ (by omega)]
      exact h.up i j hij hj2
    · obtain rfl : j = all.length := by omega
      rw [nth_last]
      by_cases hi2 : i < all.length
      · rw [nth_left _ hi2]
        refine Up.trans ?_ s1
        rw [← hT]
        exact h.up i (all.length - 1) (by omega) (by omega)
      · obtain rfl : i = all.length := by omega
        rw [nth_last]
        exact Up.refl _

/-- What rows laid over a table leave, those that are newer. -/
theorem ly_rows (U : Nat → Int) : ∀ (L : List Nat) (T : Nat → Int) (k : Nat), L.Pairwise (· < ·) → rowT (ly T (mapS U L)) k = if k ∈ L ∧ (rowT T k).2.2.1 < (rowT U k).2.2.1 then rowT U k else rowT T k
  | [], T, k, _ => by simp [mapS, ly]
  | i :: L, T, k, hp => by
    obtain ⟨h1, h2⟩ := List.pairwise_cons.1 hp
    have e : ly T (mapS U (i :: L)) = ly (if (rowT T i).2.2.1 < (rowT U i).2.2.1 then setR T i (rowT U i) else T) (mapS U L) := by
      simp [mapS, ly, nwR]
    rw [e, ly_rows U L _ k h2]
    by_cases hk : k = i
    · subst hk
      have hn : k ∉ L := fun hm => absurd (h1 k hm) (by omega)
      by_cases hg : (rowT T k).2.2.1 < (rowT U k).2.2.1
      · simp [hn, hg, rowT_same]
      · simp [hn, hg]
    · by_cases hg : (rowT T i).2.2.1 < (rowT U i).2.2.1
      · simp [hg, hk, rowT_other _ _ hk]
      · simp [hg, hk]
theorem tab_ext {T U : Nat → Int} (h0 : T 0 = U 0) (h : ∀ k, k < 16 → rowT T k = rowT U k) : ∀ o, o < 65 → T o = U o := by
  intro o ho
  rcases Nat.eq_zero_or_pos o with rfl | hp
  · exact h0
  · have e := h ((o - 1) / 4) (by omega)
    simp only [rowT, Prod.mk.injEq] at e
    obtain ⟨e0, e1, e2, e3⟩ := e
    have hm : (o - 1) % 4 < 4 := Nat.mod_lt _ (by decide)
    have hd := Nat.div_add_mod (o - 1) 4
    rcases (by omega : (o - 1) % 4 = 0 ∨ (o - 1) % 4 = 1 ∨ (o - 1) % 4 = 2 ∨ (o - 1) % 4 = 3) with m | m | m | m
    · rwa [show 1 + (o - 1) / 4 * 4 = o by omega] at e0
    · rwa [show 1 + (o - 1) / 4 * 4 + 1 = o by omega] at e1
    · rwa [show 1 + (o - 1) / 4 * 4 + 2 = o by omega] at e2
    · rwa [show 1 + (o - 1) / 4 * 4 + 3 = o by omega] at e3
/-- A sheet of the tables: from one on (or from nothing), to another one. -/
structure Shee (all : List (Nat → Int)) (ba tv : Int) (rs : List SR) : Prop where
  made : ∃ (t : Nat) (L : List Nat), t < all.length ∧ tv = (t : Int) ∧ rs = mapS (nth all t) L ∧ L.Pairwise (· < ·) ∧ ∀ v : Nat, ba ≤ (v : Int) → v ≤ t → ∀ k, k < 16 → k ∉ L → rowT (nth all v) k = rowT (nth all t) k
  ok : shOk ba tv rs = true
  new : ba = -1 ∨ 0 ≤ ba
theorem shee_of {all : List (Nat → Int)} (h : Ch all) {t : Nat} (ht : t < all.length) : Shee all (-1) (nth all t 0) (allS (nth all t)) where
  made := ⟨t, List.range 16, ht, h.ver t ht, allS_map _, List.pairwise_lt_range, fun _ _ _ _ hk hn => absurd (List.mem_range.2 hk) hn⟩
  ok := shOk_all (h.right t ht)
  new := .inl rfl
theorem shee_delta {all : List (Nat → Int)} (h : Ch all) {a t : Nat} (ha : a < all.length) (ht : t < all.length) (hlt : nth all a 0 < nth all t 0) : Shee all (nth all a 0) (nth all t 0) (chS (nth all a) (nth all t)) where
  made := ⟨t, chL (nth all a) (nth all t), ht, h.ver t ht, chS_map _ _, chL_pair _ _, fun v hv hvt k hk hn => by
    rw [h.ver a ha] at hv
    have hsame : rowT (nth all a) k = rowT (nth all t) k := by
      by_cases he : rowT (nth all a) k = rowT (nth all t) k
      · exact he
      · refine absurd ?_ hn
        unfold chL
        rw [List.mem_filter]
        exact ⟨List.mem_range.2 hk, by simp [chP, he]⟩
    rcases h.up a v (by omega) (by omega) k hk with h1 | h1
    · rcases h.up v t hvt ht k hk with h2 | h2
      · rw [hsame] at h1
        exact absurd (Int.lt_trans h1 h2) (Int.lt_irrefl _)
      · exact h2
    · rw [← h1]
      exact hsame⟩
  ok := shOk_ch (h.right a ha) (h.right t ht) hlt
  new := .inr (by rw [h.ver a ha]; omega)

/-- A client that has one of the tables, or none. -/
def CSt (all : List (Nat → Int)) (h : Bool) (T : Nat → Int) : Prop := (h = false ∧ ∀ o, o < 65 → T o = 0) ∨ (h = true ∧ ∃ i, i < all.length ∧ ∀ o, o < 65 → T o = nth all i o)
theorem CSt.new (all : List (Nat → Int)) : CSt all false zeroT := .inl ⟨rfl, fun _ _ => rfl⟩
theorem rgT_congr {T U : Nat → Int} (h : ∀ o, o < 65 → T o = U o) : rgT T = rgT U := by
  have hr : ∀ i, i < 16 → rowT T i = rowT U i := fun i hi => by
    unfold rowT
    rw [h _ (by omega), h _ (by omega), h _ (by omega), h _ (by omega)]
  refine Bool.iffEq ?_
  rw [rgT_iff, rgT_iff, h 0 (by omega)]
  constructor
  · rintro ⟨a, b⟩
    exact ⟨a, fun i hi => hr i hi ▸ b i hi⟩
  · rintro ⟨a, b⟩
    exact ⟨a, fun i hi => (hr i hi).symm ▸ b i hi⟩
theorem CSt.right {all : List (Nat → Int)} (hc : Ch all) {h : Bool} {T : Nat → Int} (k : CSt all h T) : rgC h T = true := by
  rcases k with ⟨rfl, k⟩ | ⟨rfl, i, hi, k⟩
  · exact eqN_iff.2 k
  · show rgT T = true
    rw [rgT_congr k]
    exact hc.right i hi
theorem CSt.ver {all : List (Nat → Int)} (hc : Ch all) {T : Nat → Int} (k : CSt all true T) : 0 ≤ T 0 ∧ T 0 < all.length ∧ eqN 65 T (nth all (T 0).toNat) = true := by
  rcases k with ⟨h, _⟩ | ⟨_, i, hi, k⟩
  · cases h
  · have e : T 0 = (i : Int) := (k 0 (by omega)).trans (hc.ver i hi)
    refine ⟨by omega, by omega, eqN_iff.2 ?_⟩
    rw [e, Int.toNat_natCast]
    exact k
/-- What a client that takes a sheet of the tables is then. -/
structure Took (all : List (Nat → Int)) (h : Bool) (T : Nat → Int) (ba tv : Int) (rs : List SR) (r r' : Bool × (Nat → Int) × Bool × Int) : Prop where
  err : r.2.2.2 = 0 ∨ r.2.2.2 = 120
  more : r.2.2.1 = decide (hasC h T < hasC r.1 r.2.1)
  up : hasC h T ≤ hasC r.1 r.2.1
  same : r.2.2.1 = false → eqC r.1 r.2.1 h T = true
  st : CSt all r.1 r.2.1
  again : r'.2.2.1 = false ∧ eqC r'.1 r'.2.1 r.1 r.2.1 = true
theorem took {all : List (Nat → Int)} (hc : Ch all) {h : Bool} {T : Nat → Int} (k : CSt all h T) {ba tv : Int} {rs : List SR} (s : Shee all ba tv rs) : Took all h T ba tv rs (tkR h T ba tv rs) (tkR (tkR h T ba tv rs).1 (tkR h T ba tv rs).2.1 ba tv rs) := by
  obtain ⟨t, L, ht, htv, hrs, hp, hsame⟩ := s.made
  have hr := k.right hc
  have e : tkR h T ba tv rs = if hasC h T < ba then (h, T, false, 120) else if tv ≤ hasC h T then (h, T, false, 0) else (true, wiT h T tv rs, true, 0) := by
    unfold tkR
    rw [if_pos (by rw [hr, s.ok]; rfl)]
  by_cases h1 : hasC h T < ba
  · have e1 : tkR h T ba tv rs = (h, T, false, 120) := by rw [e, if_pos h1]
    rw [e1, e1]
    exact ⟨.inr rfl, by simp, Int.le_refl _, fun _ => eqC_refl _ _, k, rfl, eqC_refl _ _⟩
  by_cases h2 : tv ≤ hasC h T
  · have e1 : tkR h T ba tv rs = (h, T, false, 0) := by rw [e, if_neg h1, if_pos h2]
    rw [e1, e1]
    exact ⟨.inl rfl, by simp, Int.le_refl _, fun _ => eqC_refl _ _, k, rfl, eqC_refl _ _⟩
  have e1 : tkR h T ba tv rs = (true, wiT h T tv rs, true, 0) := by rw [e, if_neg h1, if_neg h2]
  have hW : ∀ o, o < 65 → wiT h T tv rs o = nth all t o := by
    refine tab_ext (by rw [hc.ver t ht]; simp [wiT, upd, htv]) fun j hj => ?_
    unfold wiT
    rw [rowT_upd0, hrs, ly_rows _ L _ j hp]
    have main : ∀ v : Nat, ba ≤ (v : Int) → v ≤ t → rowT (ovT h T) j = rowT (nth all v) j → (if j ∈ L ∧ (rowT (ovT h T) j).2.2.1 < (rowT (nth all t) j).2.2.1 then rowT (nth all t) j else rowT (ovT h T) j) = rowT (nth all t) j := by
      intro v hv1 hv2 hrow
      rw [hrow]
      by_cases hm : j ∈ L
      · rcases hc.up v t hv2 ht j hj with h3 | h3
        · rw [if_pos ⟨hm, h3⟩]
        · rw [h3]
          simp
      · rw [if_neg (fun h => hm h.1)]
        exact hsame v hv1 hv2 j hj hm
    rcases k with ⟨rfl, k⟩ | ⟨rfl, i, hi, k⟩
    · refine main 0 ?_ (Nat.zero_le _) (by rw [hc.first]; rfl)
      rcases s.new with h3 | h3
      · omega
      · exact absurd (show hasC false T < ba by show (-1 : Int) < ba; omega) h1
    · have hv : hasC true T = (i : Int) := (k 0 (by omega)).trans (hc.ver i hi)
      rw [hv] at h1 h2
      refine main i (by omega) (by omega) ?_
      show rowT T j = _
      unfold rowT
      rw [k _ (by omega), k _ (by omega), k _ (by omega), k _ (by omega)]
  have hst : CSt all true (wiT h T tv rs) := .inr ⟨rfl, t, ht, hW⟩
  have hh : hasC true (wiT h T tv rs) = tv := by
    show wiT h T tv rs 0 = tv
    simp [wiT, upd]
  have hba : ba < tv := by
    have := s.ok
    simp only [shOk, Bool.and_eq_true, decide_eq_true_eq] at this
    exact this.1.1.2
  have e2 : tkR true (wiT h T tv rs) ba tv rs = (true, wiT h T tv rs, false, 0) := by
    unfold tkR
    rw [if_pos (by rw [hst.right hc, s.ok]; rfl), if_neg (by rw [hh]; omega), if_pos (by rw [hh]; exact Int.le_refl _)]
  rw [e1, e2]
  refine ⟨.inl rfl, ?_, ?_, (fun h => by cases h), hst, rfl, eqC_refl _ _⟩
  · show true = decide (hasC h T < hasC true (wiT h T tv rs))
    rw [hh, decide_eq_true (by omega)]
  · show hasC h T ≤ hasC true (wiT h T tv rs)
    rw [hh]
    omega
end Go.Proofs.Ythgoopdekllanaa
