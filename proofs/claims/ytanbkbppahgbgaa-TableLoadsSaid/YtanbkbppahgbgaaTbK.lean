/- How far loads are apart: the document's; slices.Max, slices.Min of some numbers. -/
import Derived.Test.YtanbkbppahgbgaaTbF
namespace Go.Proofs.Ytanbkbppahgbgaa
open Go.RowKit Go.Shelf
open SumM

attribute [local go_sem] Oper.semAt_some zero_tab build_tab guard_undef
attribute [local go_sem ↓] nm_ldT nm_ldA nm_ldN nm_stT nm_stN

/-- Is backend k in the set? -/
def bt (s : Int) (k : Nat) : Bool := bits .and .u8 (s / 2 ^ k) 1 == 1
/-- The numbers of those below k that are in the set. -/
def pkL (s : Int) (L : Nat → Int) (k : Nat) : List Int := ((List.range k).filter (bt s)).map L
theorem pkL_yes {s : Int} {L : Nat → Int} {k : Nat} (h : bt s k = true) : pkL s L (k + 1) = pkL s L k ++ [L k] := by
  simp [pkL, List.range_succ, List.filter_append, h]
theorem pkL_no {s : Int} {L : Nat → Int} {k : Nat} (h : bt s k = false) : pkL s L (k + 1) = pkL s L k := by
  simp [pkL, List.range_succ, List.filter_append, h]
theorem pkL_len (s : Int) (L : Nat → Int) (k : Nat) : (pkL s L k).length ≤ k := by
  unfold pkL
  rw [List.length_map]
  exact Nat.le_trans (List.length_filter_le _ _) (by simp)
theorem pkL_in {s : Int} {L : Nat → Int} (h : ∀ c, 0 ≤ L c ∧ L c ≤ 16) (k : Nat) : ∀ x ∈ pkL s L k, 0 ≤ x ∧ x ≤ 16 := by
  intro x hx
  simp only [pkL, List.mem_map] at hx
  obtain ⟨c, _, rfl⟩ := hx
  exact h c
def leastF (xs : List Int) : Int := xs.foldl min 16
def mostF (xs : List Int) : Int := xs.foldl max (-1)
theorem leastF_end (xs : List Int) (x : Int) : leastF (xs ++ [x]) = min (leastF xs) x := by simp [leastF, List.foldl_append]
theorem mostF_end (xs : List Int) (x : Int) : mostF (xs ++ [x]) = max (mostF xs) x := by simp [mostF, List.foldl_append]
theorem foldMin_in (xs : List Int) (h : ∀ x ∈ xs, 0 ≤ x ∧ x ≤ 16) : ∀ a, 0 ≤ a ∧ a ≤ 16 → 0 ≤ xs.foldl min a ∧ xs.foldl min a ≤ a ∧ ∀ x ∈ xs, xs.foldl min a ≤ x := by
  induction xs with
  | nil => intro a ha; exact ⟨ha.1, Int.le_refl _, fun x hx => absurd hx (by simp)⟩
  | cons y ys ih =>
    intro a ha
    have hy := h y (by simp)
    have := ih (fun x hx => h x (by simp [hx])) (min a y) (by omega)
    simp only [List.foldl_cons]
    refine ⟨this.1, by omega, fun x hx => ?_⟩
    rcases List.mem_cons.1 hx with rfl | hx
    · omega
    · exact this.2.2 x hx
theorem foldMax_in (xs : List Int) (h : ∀ x ∈ xs, 0 ≤ x ∧ x ≤ 16) : ∀ a, -1 ≤ a ∧ a ≤ 16 → a ≤ xs.foldl max a ∧ xs.foldl max a ≤ 16 ∧ ∀ x ∈ xs, x ≤ xs.foldl max a := by
  induction xs with
  | nil => intro a ha; exact ⟨Int.le_refl _, ha.2, fun x hx => absurd hx (by simp)⟩
  | cons y ys ih =>
    intro a ha
    have hy := h y (by simp)
    have := ih (fun x hx => h x (by simp [hx])) (max a y) (by omega)
    simp only [List.foldl_cons]
    refine ⟨by omega, this.2.1, fun x hx => ?_⟩
    rcases List.mem_cons.1 hx with rfl | hx
    · omega
    · exact this.2.2 x hx
/-- How far the numbers are apart. -/
def apart (xs : List Int) : Int := max (mostF xs - leastF xs) 0
/-- The spread. -/
def spr (T : Nat → Int) (s : Int) : Int := apart (pkL s (lodT T 16) 6)
theorem lod16 (T : Nat → Int) (c : Nat) : 0 ≤ lodT T 16 c ∧ lodT T 16 c ≤ 16 := by
  have := lodT_in T 16 c
  omega

set_option maxRecDepth 100000 in
set_option maxHeartbeats 8000000 in
theorem r10Spread_any (T : Nat → Int) (s : Int) (w : World) : Calls Try.prog 19 #[tabV T, .int .u8 s] w fun e w' => e = .returned (.int .i64 (spr T s)) ∧ Below w.heap.size w w' := by
  have bT := heap_alloc_new w (.cells (numL 65 T).toArray 26)
  have L0 := (Below.refl w.heap.size w).alloc (Nat.le_refl _) (.cells (numL 65 T).toArray 26)
  have hs1 : (w.alloc (.cells (numL 65 T).toArray 26)).heap.size = w.heap.size + 1 := by simp
  go_enter Try.func19, Try.ntmps19
  go_upto_region 1 with (fail)
  generalize w.alloc (.cells (numL 65 T).toArray 26) = W0 at *
  have l0 := ld_tab bT
  go_wp2_with fail
  refine (r10Loads_any T W0).mono ?_
  rintro e w1 ⟨rfl, m1⟩
  have L1 := L0.trans (m1.mono L0.size)
  have bL : NB w1.heap.size 34 6 zeroT (w1.alloc (.cells #[.int .i64 0, .int .i64 0, .int .i64 0, .int .i64 0, .int .i64 0, .int .i64 0] 34)) := heap_alloc_new w1 (.cells (numL 6 zeroT).toArray 34)
  have L2 := L1.alloc L1.size (.cells #[.int .i64 0, .int .i64 0, .int .i64 0, .int .i64 0, .int .i64 0, .int .i64 0] 34)
  have s0 := st_nums bL (lodT T 16)
  have HL := Lib.hid (nb_full bL (lodT T 16))
  clear l0 bT L0 m1 bL
  go_upto_region 2 with fail
  have L3 : Below w.heap.size w ((w1.alloc (.cells #[.int .i64 0, .int .i64 0, .int .i64 0, .int .i64 0, .int .i64 0, .int .i64 0] 34)).setCells w1.heap.size 0 (numL 6 (lodT T 16))) := below_setCells w1.heap.size L1.size (numL 6 (lodT T 16)) 0 w _ L2
  have HL3 := Lib.hid L3
  clear s0 L1 L2 hs1 L3
  generalize (w1.alloc (.cells #[.int .i64 0, .int .i64 0, .int .i64 0, .int .i64 0, .int .i64 0, .int .i64 0] 34)).setCells w1.heap.size 0 (numL 6 (lodT T 16)) = W3 at *
  generalize w1.heap.size = B at *
  have HIN := Lib.hid (lod16 T)
  have HSP := Lib.hid (show spr T s = max (mostF (pkL s (lodT T 16) 6) - leastF (pkL s (lodT T 16) 6)) 0 from rfl)
  generalize lodT T 16 = L at *
  go_wp2
  go_loopw [6, 7, 8] (fun a b i wr => ∃ k : Nat, k ≤ 6 ∧ i = .int .i64 (k : Nat) ∧ a = .int .i64 (leastF (pkL s L k)) ∧ b = .int .i64 (mostF (pkL s L k)) ∧ wr = W3) (fun _ _ i _ => 6 - (intOf i).toNat)
  case atStart => exact ⟨0, by omega, rfl, rfl, rfl, rfl⟩
  case round =>
    obtain ⟨k, hk, rfl, rfl, rfl, rfl⟩ := hrel
    by_cases hlt : k < 6
    · have hk1 : (k : Int) < 6 := by omega
      have c0 := nb_cell HL.out hlt
      obtain ⟨p, hp⟩ : ∃ p, bt s k = p := ⟨_, rfl⟩
      have ht : (bits BinOp.and IntKind.u8 (s / 2 ^ k) 1 == 1) = p := hp
      have HY := Lib.hid (fun h : p = true => pkL_yes (L := L) (hp.trans h))
      have HN := Lib.hid (fun h : p = false => pkL_no (L := L) (hp.trans h))
      clear hp
      have HE := Lib.hid (And.intro (leastF_end (pkL s L k) (L k)) (mostF_end (pkL s L k) (L k)))
      generalize ha : leastF (pkL s L k) = a at *
      generalize hb : mostF (pkL s L k) = b at *
      have HAB := Lib.hid (And.intro ha hb)
      clear ha hb
      generalize L k = x at *
      cases p
      · go_wp2
        go_roundw
        case rel => exact ⟨k + 1, by omega, by go_num, by rw [HN.out rfl, HAB.out.1], by rw [HN.out rfl, HAB.out.2], trivial⟩
        case measure => simp [intOf]; omega
      · by_cases h1 : x < a
        · by_cases h2 : b < x
          · go_wp2
            go_roundw
            case rel => exact ⟨k + 1, by omega, by go_num, by rw [HY.out rfl, HE.out.1, show min a x = x by omega], by rw [HY.out rfl, HE.out.2, show max b x = x by omega], trivial⟩
            case measure => simp [intOf]; omega
          · go_wp2
            go_roundw
            case rel => exact ⟨k + 1, by omega, by go_num, by rw [HY.out rfl, HE.out.1, show min a x = x by omega], by rw [HY.out rfl, HE.out.2, show max b x = b by omega], trivial⟩
            case measure => simp [intOf]; omega
        · by_cases h2 : b < x
          · go_wp2
            go_roundw
            case rel => exact ⟨k + 1, by omega, by go_num, by rw [HY.out rfl, HE.out.1, show min a x = a by omega], by rw [HY.out rfl, HE.out.2, show max b x = x by omega], trivial⟩
            case measure => simp [intOf]; omega
          · go_wp2
            go_roundw
            case rel => exact ⟨k + 1, by omega, by go_num, by rw [HY.out rfl, HE.out.1, show min a x = a by omega], by rw [HY.out rfl, HE.out.2, show max b x = b by omega], trivial⟩
            case measure => simp [intOf]; omega
    · obtain rfl : k = 6 := by omega
      have h1 := foldMin_in (pkL s L 6) (pkL_in HIN.out 6) 16 (by omega)
      have h2 := foldMax_in (pkL s L 6) (pkL_in HIN.out 6) (-1) (by omega)
      have h3 : 0 ≤ leastF (pkL s L 6) ∧ leastF (pkL s L 6) ≤ 16 := ⟨h1.1, h1.2.1⟩
      have h4 : -1 ≤ mostF (pkL s L 6) ∧ mostF (pkL s L 6) ≤ 16 := ⟨h2.1, h2.2.1⟩
      clear h1 h2
      generalize leastF (pkL s L 6) = a at *
      generalize mostF (pkL s L 6) = b at *
      have hwr : IntKind.i64.wrap (b - a) = b - a := IntWalk.i64_in _ (by omega)
      have H34 := Lib.hid (And.intro h3 h4)
      clear h3 h4
      by_cases h5 : b - a < 0
      · have HR := Lib.hid (show (0 : Int) = spr T s by rw [HSP.out]; omega)
        go_wp2
        go_ret
        exact ⟨by rw [← HR.out]; rfl, HL3.out⟩
      · have HR := Lib.hid (show b - a = spr T s by rw [HSP.out]; omega)
        go_wp2
        go_ret
        exact ⟨by rw [← HR.out]; rfl, HL3.out⟩

set_option maxRecDepth 100000 in
set_option maxHeartbeats 2000000 in
theorem slMax_any (a : Option Addr) (len cap : Nat) (x : Int) (xs : List Int) (hl : xs.length + 1 = len) (hs : len ≤ 1000) (w : World) (h : Row .i64 w.heap.size w a (x :: xs)) :
    Calls Try.prog 37 #[.slice a len cap] w fun e w' => e = .returned (.int .i64 (xs.foldl max x)) ∧ w = w' := by
  obtain ⟨b, off, rfl, hb, hc⟩ := h.2 (by simp)
  have c0 := hc 0 (by simp)
  have hlen0 : (0 : Int) < (len : Int) := by omega
  have e1 : decide ((len : Int) < 1) = false := by simp; omega
  have HL := Lib.hid hl
  have hcx : ∀ k, k < xs.length → w.cell? ⟨b, off + (k + 1), none⟩ = some (.int .i64 (xs[k]?.getD 0)) := fun k hk => by
    have := hc (k + 1) (by simpa using hk)
    simpa using this
  have HC := Lib.hid hcx
  simp only [List.getElem?_cons_zero, Option.getD_some, Nat.add_zero] at c0
  clear hc hl h hcx
  go_enter Try.func37, Try.ntmps37
  go_upto_region 4 with fail
  clear c0 e1 hlen0
  go_wp2
  go_loopw [3, 4] (fun m i wr => ∃ k : Nat, 1 ≤ k ∧ k ≤ len ∧ i = .int .i64 (k : Nat) ∧ m = .int .i64 ((xs.take (k - 1)).foldl max x) ∧ wr = w) (fun _ i _ => len - (intOf i).toNat)
  case atStart => exact ⟨1, by omega, by have := HL.out; omega, rfl, rfl, rfl⟩
  case round =>
    obtain ⟨k, hk0, hk, rfl, rfl, rfl⟩ := hrel
    by_cases hlt : k < len
    · have hk1 : (k : Int) < (len : Int) := by omega
      have hk2 : (0 : Int) ≤ (k : Int) := by omega
      have c1 := HC.out (k - 1) (by have := HL.out; omega)
      rw [show k - 1 + 1 = k by omega] at c1
      have HT := Lib.hid (show (xs.take (k + 1 - 1)).foldl max x = max ((xs.take (k - 1)).foldl max x) (xs[k - 1]?.getD 0) by
        have hkl : k - 1 < xs.length := by have := HL.out; omega
        rw [show k + 1 - 1 = k - 1 + 1 by omega, List.take_add_one, List.getElem?_eq_getElem hkl, List.foldl_append]
        rfl)
      generalize xs[k - 1]?.getD 0 = y at *
      generalize (xs.take (k - 1)).foldl max x = m at *
      by_cases h1 : m < y
      · go_wp2
        go_roundw
        case rel => exact ⟨k + 1, by omega, by omega, by go_num, by rw [HT.out, show max m y = y by omega], trivial⟩
        case measure => simp [intOf]; omega
      · go_wp2
        go_roundw
        case rel => exact ⟨k + 1, by omega, by omega, by go_num, by rw [HT.out, show max m y = m by omega], trivial⟩
        case measure => simp [intOf]; omega
    · obtain rfl : k = len := by omega
      have HR := Lib.hid (show (xs.take (k - 1)).foldl max x = xs.foldl max x by rw [List.take_of_length_le (by have := HL.out; omega)])
      generalize (xs.take (k - 1)).foldl max x = m at *
      go_wp2
      go_ret
      exact ⟨by rw [← HR.out]; rfl, rfl⟩

set_option maxRecDepth 100000 in
set_option maxHeartbeats 2000000 in
theorem slMin_any (a : Option Addr) (len cap : Nat) (x : Int) (xs : List Int) (hl : xs.length + 1 = len) (hs : len ≤ 1000) (w : World) (h : Row .i64 w.heap.size w a (x :: xs)) :
    Calls Try.prog 38 #[.slice a len cap] w fun e w' => e = .returned (.int .i64 (xs.foldl min x)) ∧ w = w' := by
  obtain ⟨b, off, rfl, hb, hc⟩ := h.2 (by simp)
  have c0 := hc 0 (by simp)
  have hlen0 : (0 : Int) < (len : Int) := by omega
  have e1 : decide ((len : Int) < 1) = false := by simp; omega
  have HL := Lib.hid hl
  have hcx : ∀ k, k < xs.length → w.cell? ⟨b, off + (k + 1), none⟩ = some (.int .i64 (xs[k]?.getD 0)) := fun k hk => by
    have := hc (k + 1) (by simpa using hk)
    simpa using this
  have HC := Lib.hid hcx
  simp only [List.getElem?_cons_zero, Option.getD_some, Nat.add_zero] at c0
  clear hc hl h hcx
  go_enter Try.func38, Try.ntmps38
  go_upto_region 4 with fail
  clear c0 e1 hlen0
  go_wp2
  go_loopw [3, 4] (fun m i wr => ∃ k : Nat, 1 ≤ k ∧ k ≤ len ∧ i = .int .i64 (k : Nat) ∧ m = .int .i64 ((xs.take (k - 1)).foldl min x) ∧ wr = w) (fun _ i _ => len - (intOf i).toNat)
  case atStart => exact ⟨1, by omega, by have := HL.out; omega, rfl, rfl, rfl⟩
  case round =>
    obtain ⟨k, hk0, hk, rfl, rfl, rfl⟩ := hrel
    by_cases hlt : k < len
    · have hk1 : (k : Int) < (len : Int) := by omega
      have hk2 : (0 : Int) ≤ (k : Int) := by omega
      have c1 := HC.out (k - 1) (by have := HL.out; omega)
      rw [show k - 1 + 1 = k by omega] at c1
      have HT := Lib.hid (show (xs.take (k + 1 - 1)).foldl min x = min ((xs.take (k - 1)).foldl min x) (xs[k - 1]?.getD 0) by
        have hkl : k - 1 < xs.length := by have := HL.out; omega
        rw [show k + 1 - 1 = k - 1 + 1 by omega, List.take_add_one, List.getElem?_eq_getElem hkl, List.foldl_append]
        rfl)
      generalize xs[k - 1]?.getD 0 = y at *
      generalize (xs.take (k - 1)).foldl min x = m at *
      by_cases h1 : y < m
      · go_wp2
        go_roundw
        case rel => exact ⟨k + 1, by omega, by omega, by go_num, by rw [HT.out, show min m y = y by omega], trivial⟩
        case measure => simp [intOf]; omega
      · go_wp2
        go_roundw
        case rel => exact ⟨k + 1, by omega, by omega, by go_num, by rw [HT.out, show min m y = m by omega], trivial⟩
        case measure => simp [intOf]; omega
    · obtain rfl : k = len := by omega
      have HR := Lib.hid (show (xs.take (k - 1)).foldl min x = xs.foldl min x by rw [List.take_of_length_le (by have := HL.out; omega)])
      generalize (xs.take (k - 1)).foldl min x = m at *
      go_wp2
      go_ret
      exact ⟨by rw [← HR.out]; rfl, rfl⟩
end Go.Proofs.Ytanbkbppahgbgaa
