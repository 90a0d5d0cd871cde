/- IpMore: Plain mathematics of a head's bytes: what is put is parsed, what is parsed is put as it was, what is changed is told. Whether two heads are the same, by the document. 'handfastlaw02.wakes' returns true, in whatever memory in which the package's table lies as its text lays it. -/
import Derived.Test.YthenbpnlmpeafaaDoorIpR
import Derived.Test.YthenbpnlmpeafaaDoorIpCore

/- Plain mathematics of a head's bytes: what is put is parsed, what is parsed is put as it was, what is changed is told. -/
namespace Go.Proofs.YthenbpnlmpeafaaDoor
open SumM

/-- A head's twenty bytes, its check at its place. -/
def headC (sv nu fl ho pr sr ds : Int) (on pn : Nat) (c1 c2 : Int) (os : List Int) : List Int :=
  (64 + (20 + (on : Int)) / 4) :: sv :: ((20 + (on : Int) + pn) / 256) :: ((20 + (on : Int) + pn) % 256) :: (nu / 256) :: (nu % 256) :: (fl / 256) :: (fl % 256) :: ho :: pr :: c1 :: c2 ::
  (sr / 16777216) :: (sr / 65536 % 256) :: (sr / 256 % 256) :: (sr % 256) :: (ds / 16777216) :: (ds / 65536 % 256) :: (ds / 256 % 256) :: (ds % 256) :: os
theorem headOf_eq {sv nu fl ho pr sr ds : Int} {on pn : Nat} (os : List Int) (H : Nums sv nu fl ho pr sr ds) (hs : on ≤ 40 ∧ on % 4 = 0 ∧ 20 + on + pn ≤ 65535) : headOf sv nu fl ho pr sr ds on pn os = headC sv nu fl ho pr sr ds on pn 0 0 os := by
  obtain ⟨h1, h2, h3, h4, h5, h6, h7⟩ := H
  have e0 : (64 + (20 + (on : Int)) / 4) % 256 = 64 + (20 + (on : Int)) / 4 := by omega
  have e1 : sv % 256 = sv := by omega
  have e2 : (20 + (on : Int) + pn) / 256 % 256 = (20 + (on : Int) + pn) / 256 := by omega
  have e3 : nu / 256 % 256 = nu / 256 := by omega
  have e4 : fl / 256 % 256 = fl / 256 := by omega
  have e5 : ho % 256 = ho := by omega
  have e6 : pr % 256 = pr := by omega
  have e7 : sr / 16777216 % 256 = sr / 16777216 := by omega
  have e8 : ds / 16777216 % 256 = ds / 16777216 := by omega
  simp [headOf, headC, List.range_succ, be, upto, widthAt, numAt, e0, e1, e2, e3, e4, e5, e6, e7, e8]
theorem headC_set {sv nu fl ho pr sr ds : Int} {on pn : Nat} (c1 c2 d1 d2 : Int) (os : List Int) : ((headC sv nu fl ho pr sr ds on pn c1 c2 os).set 10 d1).set 11 d2 = headC sv nu fl ho pr sr ds on pn d1 d2 os := rfl
theorem headC_append {sv nu fl ho pr sr ds : Int} {on pn : Nat} (c1 c2 : Int) (os ps : List Int) : headC sv nu fl ho pr sr ds on pn c1 c2 os ++ ps = headC sv nu fl ho pr sr ds on pn c1 c2 (os ++ ps) := rfl
theorem headC_length {sv nu fl ho pr sr ds : Int} {on pn : Nat} (c1 c2 : Int) (os : List Int) : (headC sv nu fl ho pr sr ds on pn c1 c2 os).length = 20 + os.length := by simp [headC]; omega
theorem headC_take {sv nu fl ho pr sr ds : Int} {on pn : Nat} (c1 c2 : Int) (os ps : List Int) : (headC sv nu fl ho pr sr ds on pn c1 c2 (os ++ ps)).take (20 + os.length) = headC sv nu fl ho pr sr ds on pn c1 c2 os := by
  rw [← headC_append, List.take_left' (headC_length _ _ _)]
theorem headC_drop {sv nu fl ho pr sr ds : Int} {on pn : Nat} (c1 c2 : Int) (os ps : List Int) : (headC sv nu fl ho pr sr ds on pn c1 c2 (os ++ ps)).drop (20 + os.length) = ps := by
  rw [← headC_append, List.drop_left' (headC_length _ _ _)]
theorem headC_drop20 {sv nu fl ho pr sr ds : Int} {on pn : Nat} (c1 c2 : Int) (os : List Int) : (headC sv nu fl ho pr sr ds on pn c1 c2 os).drop 20 = os := rfl
theorem headC_seg {sv nu fl ho pr sr ds : Int} {on pn : Nat} (c1 c2 : Int) (os : List Int) (H : Nums sv nu fl ho pr sr ds) :
    segAt (headC sv nu fl ho pr sr ds on pn c1 c2 os) 0 = 64 + (20 + (on : Int)) / 4 ∧ segAt (headC sv nu fl ho pr sr ds on pn c1 c2 os) 1 = sv ∧ segAt (headC sv nu fl ho pr sr ds on pn c1 c2 os) 2 = 20 + (on : Int) + pn ∧
    segAt (headC sv nu fl ho pr sr ds on pn c1 c2 os) 3 = nu ∧ segAt (headC sv nu fl ho pr sr ds on pn c1 c2 os) 4 = fl ∧ segAt (headC sv nu fl ho pr sr ds on pn c1 c2 os) 5 = ho ∧ segAt (headC sv nu fl ho pr sr ds on pn c1 c2 os) 6 = pr ∧
    segAt (headC sv nu fl ho pr sr ds on pn c1 c2 os) 7 = c1 * 256 + c2 ∧ segAt (headC sv nu fl ho pr sr ds on pn c1 c2 os) 8 = sr ∧ segAt (headC sv nu fl ho pr sr ds on pn c1 c2 os) 9 = ds := by
  obtain ⟨h1, h2, h3, h4, h5, h6, h7⟩ := H
  refine ⟨?_, ?_, ?_, ?_, ?_, ?_, ?_, ?_, ?_, ?_⟩
  all_goals simp [segAt, headC, offAt, widthAt, numOf]
  all_goals omega
theorem hlOf_eq {bs : List Int} {on : Nat} (h : segAt bs 0 = 64 + (20 + (on : Int)) / 4) (ho : on ≤ 40 ∧ on % 4 = 0) : hlOf bs = 20 + on := by
  unfold hlOf
  rw [h]
  omega
/-- What was put, with whatever flags. -/
theorem putOf_eq {sv nu fl ho pr sr ds : Int} {on pn : Nat} (os ps : List Int) (H : Nums sv nu fl ho pr sr ds) (hs : on ≤ 40 ∧ on % 4 = 0 ∧ 20 + on + pn ≤ 65535) :
    ∃ c, c = 65535 - sumOf (headC sv nu fl ho pr sr ds on pn 0 0 os) ∧ 0 ≤ c ∧ c ≤ 65535 ∧ putOf sv nu fl ho pr sr ds on pn os ps = headC sv nu fl ho pr sr ds on pn (c / 256) (c % 256) (os ++ ps) := by
  refine ⟨_, rfl, ?_, ?_, ?_⟩
  · have := cr_in (tot (words (headC sv nu fl ho pr sr ds on pn 0 0 os)))
    unfold sumOf
    omega
  · have := cr_in (tot (words (headC sv nu fl ho pr sr ds on pn 0 0 os)))
    unfold sumOf
    omega
  · unfold putOf
    rw [headOf_eq os H hs, headC_set, headC_append]
theorem why_put {sv nu fl ho pr sr ds : Int} {on pn : Nat} (os ps : List Int) (H : Nums sv nu fl ho pr sr ds) (hs : on ≤ 40 ∧ on % 4 = 0 ∧ 20 + on + pn ≤ 65535) (hol : os.length = on) (hpl : ps.length = pn) :
    whyOf (putOf sv nu fl ho pr sr ds on pn os ps) = if fl ≠ 0 ∧ fl ≠ 16384 then 6 else 0 := by
  obtain ⟨c, hc, hc0, hc1, e⟩ := putOf_eq os ps H hs
  rw [e]
  obtain ⟨s0, s1, s2, s3, s4, s5, s6, s7, s8, s9⟩ := headC_seg (pn := pn) (c / 256) (c % 256) (os ++ ps) H
  have hl := hlOf_eq s0 ⟨hs.1, hs.2.1⟩
  have hlen := headC_length (sv := sv) (nu := nu) (fl := fl) (ho := ho) (pr := pr) (sr := sr) (ds := ds) (on := on) (pn := pn) (c / 256) (c % 256) (os ++ ps)
  rw [List.length_append] at hlen
  unfold whyOf
  rw [if_neg (by omega), if_neg (by omega), if_neg (by omega), if_neg (by omega), s4, hl, s7]
  have ht : (headC sv nu fl ho pr sr ds on pn (c / 256) (c % 256) (os ++ ps)).take (20 + on) = headC sv nu fl ho pr sr ds on pn (c / 256) (c % 256) os := by rw [← hol]; exact headC_take _ _ _ _
  rw [ht]
  unfold chkOf
  rw [headC_set, ← hc, if_neg (by omega)]
/-- What was put, as it is parsed. -/
theorem put_seg {sv nu fl ho pr sr ds : Int} {on pn : Nat} (os ps : List Int) (H : Nums sv nu fl ho pr sr ds) (hs : on ≤ 40 ∧ on % 4 = 0 ∧ 20 + on + pn ≤ 65535) (hol : os.length = on) :
    segAt (putOf sv nu fl ho pr sr ds on pn os ps) 1 % 256 = sv ∧ segAt (putOf sv nu fl ho pr sr ds on pn os ps) 3 % 65536 = nu ∧ segAt (putOf sv nu fl ho pr sr ds on pn os ps) 4 % 65536 = fl ∧
    segAt (putOf sv nu fl ho pr sr ds on pn os ps) 5 % 256 = ho ∧ segAt (putOf sv nu fl ho pr sr ds on pn os ps) 6 % 256 = pr ∧ segAt (putOf sv nu fl ho pr sr ds on pn os ps) 8 = sr ∧ segAt (putOf sv nu fl ho pr sr ds on pn os ps) 9 = ds ∧
    ((putOf sv nu fl ho pr sr ds on pn os ps).take (hlOf (putOf sv nu fl ho pr sr ds on pn os ps))).drop 20 = os ∧ (putOf sv nu fl ho pr sr ds on pn os ps).drop (hlOf (putOf sv nu fl ho pr sr ds on pn os ps)) = ps := by
  obtain ⟨c, hc, hc0, hc1, e⟩ := putOf_eq os ps H hs
  rw [e]
  obtain ⟨s0, s1, s2, s3, s4, s5, s6, s7, s8, s9⟩ := headC_seg (pn := pn) (c / 256) (c % 256) (os ++ ps) H
  have hl := hlOf_eq s0 ⟨hs.1, hs.2.1⟩
  rw [hl]
  subst hol
  rw [headC_take, headC_drop, headC_drop20]
  obtain ⟨h1, h2, h3, h4, h5, h6, h7⟩ := H
  exact ⟨by omega, by omega, by omega, by omega, by omega, s8, s9, rfl, rfl⟩
theorem uncons {n : Nat} (l : List Int) (h : n + 1 ≤ l.length) : ∃ x r, l = x :: r ∧ n ≤ r.length := by
  cases l with
  | nil => simp at h
  | cons x r => exact ⟨x, r, rfl, by simpa using h⟩
theorem cons20 (l : List Int) (h : 20 ≤ l.length) : ∃ b0 b1 b2 b3 b4 b5 b6 b7 b8 b9 b10 b11 b12 b13 b14 b15 b16 b17 b18 b19 r, l = b0 :: b1 :: b2 :: b3 :: b4 :: b5 :: b6 :: b7 :: b8 :: b9 :: b10 :: b11 :: b12 :: b13 :: b14 :: b15 :: b16 :: b17 :: b18 :: b19 :: r := by
  obtain ⟨b0, r0, rfl, h0⟩ := uncons l h
  obtain ⟨b1, r1, rfl, h1⟩ := uncons r0 h0
  obtain ⟨b2, r2, rfl, h2⟩ := uncons r1 h1
  obtain ⟨b3, r3, rfl, h3⟩ := uncons r2 h2
  obtain ⟨b4, r4, rfl, h4⟩ := uncons r3 h3
  obtain ⟨b5, r5, rfl, h5⟩ := uncons r4 h4
  obtain ⟨b6, r6, rfl, h6⟩ := uncons r5 h5
  obtain ⟨b7, r7, rfl, h7⟩ := uncons r6 h6
  obtain ⟨b8, r8, rfl, h8⟩ := uncons r7 h7
  obtain ⟨b9, r9, rfl, h9⟩ := uncons r8 h8
  obtain ⟨b10, r10, rfl, h10⟩ := uncons r9 h9
  obtain ⟨b11, r11, rfl, h11⟩ := uncons r10 h10
  obtain ⟨b12, r12, rfl, h12⟩ := uncons r11 h11
  obtain ⟨b13, r13, rfl, h13⟩ := uncons r12 h12
  obtain ⟨b14, r14, rfl, h14⟩ := uncons r13 h13
  obtain ⟨b15, r15, rfl, h15⟩ := uncons r14 h14
  obtain ⟨b16, r16, rfl, h16⟩ := uncons r15 h15
  obtain ⟨b17, r17, rfl, h17⟩ := uncons r16 h16
  obtain ⟨b18, r18, rfl, h18⟩ := uncons r17 h17
  obtain ⟨b19, r19, rfl, h19⟩ := uncons r18 h18
  exact ⟨b0, b1, b2, b3, b4, b5, b6, b7, b8, b9, b10, b11, b12, b13, b14, b15, b16, b17, b18, b19, r19, rfl⟩
theorem four_bytes (x y z u : Int) (hy : 0 ≤ y ∧ y ≤ 255) (hz : 0 ≤ z ∧ z ≤ 255) (hu : 0 ≤ u ∧ u ≤ 255) :
    (((x * 256 + y) * 256 + z) * 256 + u) / 16777216 = x ∧ (((x * 256 + y) * 256 + z) * 256 + u) / 65536 % 256 = y ∧ (((x * 256 + y) * 256 + z) * 256 + u) / 256 % 256 = z ∧ (((x * 256 + y) * 256 + z) * 256 + u) % 256 = u := by
  refine ⟨?_, ?_, ?_, ?_⟩
  · omega
  · omega
  · omega
  · omega
theorem why_zero {bs : List Int} (h : whyOf bs = 0) : 20 ≤ bs.length ∧ segAt bs 0 / 16 = 4 ∧ 20 ≤ hlOf bs ∧ hlOf bs ≤ bs.length ∧ segAt bs 2 = bs.length ∧ segAt bs 7 = chkOf (bs.take (hlOf bs)) ∧ (segAt bs 4 = 0 ∨ segAt bs 4 = 16384) := by
  unfold whyOf at h
  split at h
  · omega
  split at h
  · omega
  split at h
  · omega
  split at h
  · omega
  split at h
  · omega
  split at h
  · omega
  omega
theorem why_in (bs : List Int) : 0 ≤ whyOf bs ∧ whyOf bs ≤ 6 := by
  unfold whyOf
  (repeat' split) <;> omega
/-- What is parsed is put as it was. -/
theorem put_parse {bs : List Int} (hin : In 255 bs) (h : whyOf bs = 0) :
    Nums (segAt bs 1 % 256) (segAt bs 3 % 65536) (segAt bs 4 % 65536) (segAt bs 5 % 256) (segAt bs 6 % 256) (segAt bs 8) (segAt bs 9) ∧
    rightB (segAt bs 4 % 65536) ((bs.take (hlOf bs)).drop 20).length (bs.drop (hlOf bs)).length = true ∧
    putOf (segAt bs 1 % 256) (segAt bs 3 % 65536) (segAt bs 4 % 65536) (segAt bs 5 % 256) (segAt bs 6 % 256) (segAt bs 8) (segAt bs 9) ((bs.take (hlOf bs)).drop 20).length (bs.drop (hlOf bs)).length ((bs.take (hlOf bs)).drop 20) (bs.drop (hlOf bs)) = bs := by
  obtain ⟨h20, hv, hl, hlb, hlen, hck, hfl⟩ := why_zero h
  obtain ⟨b0, b1, b2, b3, b4, b5, b6, b7, b8, b9, b10, b11, b12, b13, b14, b15, b16, b17, b18, b19, r, e⟩ := cons20 bs h20
  have hh : hlOf bs = (segAt bs 0 % 16 * 4).toNat := rfl
  generalize hlOf bs = hd at *
  have hon : ((bs.take hd).drop 20).length = hd - 20 := by simp; omega
  have hpn : (bs.drop hd).length = bs.length - hd := by simp
  rw [hon, hpn]
  generalize hos : (bs.take hd).drop 20 = os at *
  generalize hps : bs.drop hd = ps at *
  have hbs : bs = (bs.take hd).take 20 ++ os ++ ps := by rw [← hos, ← hps, List.take_append_drop, List.take_append_drop]
  have hb : ∀ x ∈ [b0, b1, b2, b3, b4, b5, b6, b7, b8, b9, b10, b11, b12, b13, b14, b15, b16, b17, b18, b19], 0 ≤ x ∧ x ≤ 255 := fun x hx => hin x (by rw [e]; exact List.mem_append_left r hx)
  simp only [List.mem_cons, List.not_mem_nil, or_false, forall_eq_or_imp, forall_eq] at hb
  obtain ⟨hb0, hb1, hb2, hb3, hb4, hb5, hb6, hb7, hb8, hb9, hb10, hb11, hb12, hb13, hb14, hb15, hb16, hb17, hb18, hb19⟩ := hb
  have s0 : segAt bs 0 = b0 := by rw [e]; simp [segAt, offAt, widthAt, numOf]
  have s1 : segAt bs 1 = b1 := by rw [e]; simp [segAt, offAt, widthAt, numOf]
  have s2 : segAt bs 2 = b2 * 256 + b3 := by rw [e]; simp [segAt, offAt, widthAt, numOf]
  have s3 : segAt bs 3 = b4 * 256 + b5 := by rw [e]; simp [segAt, offAt, widthAt, numOf]
  have s4 : segAt bs 4 = b6 * 256 + b7 := by rw [e]; simp [segAt, offAt, widthAt, numOf]
  have s5 : segAt bs 5 = b8 := by rw [e]; simp [segAt, offAt, widthAt, numOf]
  have s6 : segAt bs 6 = b9 := by rw [e]; simp [segAt, offAt, widthAt, numOf]
  have s7 : segAt bs 7 = b10 * 256 + b11 := by rw [e]; simp [segAt, offAt, widthAt, numOf]
  have s8 : segAt bs 8 = ((b12 * 256 + b13) * 256 + b14) * 256 + b15 := by rw [e]; simp [segAt, offAt, widthAt, numOf]
  have s9 : segAt bs 9 = ((b16 * 256 + b17) * 256 + b18) * 256 + b19 := by rw [e]; simp [segAt, offAt, widthAt, numOf]
  rw [s0] at hv hh
  rw [s2] at hlen
  rw [s7] at hck
  rw [s4] at hfl
  rw [s1, s3, s4, s5, s6, s8, s9]
  have HN : Nums (b1 % 256) ((b4 * 256 + b5) % 65536) ((b6 * 256 + b7) % 65536) (b8 % 256) (b9 % 256) (((b12 * 256 + b13) * 256 + b14) * 256 + b15) (((b16 * 256 + b17) * 256 + b18) * 256 + b19) :=
    ⟨by omega, by omega, by omega, by omega, by omega, by omega, by omega⟩
  have hs : hd - 20 ≤ 40 ∧ (hd - 20) % 4 = 0 ∧ 20 + (hd - 20) + (bs.length - hd) ≤ 65535 := by omega
  refine ⟨HN, decide_eq_true ⟨by omega, hs⟩, ?_⟩
  obtain ⟨c, hc, hc0, hc1, e2⟩ := putOf_eq os ps HN hs
  have e20 : (bs.take hd).take 20 = [b0, b1, b2, b3, b4, b5, b6, b7, b8, b9, b10, b11, b12, b13, b14, b15, b16, b17, b18, b19] := by
    rw [List.take_take, Nat.min_eq_left (by omega), e]
    rfl
  have ehd : bs.take hd = b0 :: b1 :: b2 :: b3 :: b4 :: b5 :: b6 :: b7 :: b8 :: b9 :: b10 :: b11 :: b12 :: b13 :: b14 :: b15 :: b16 :: b17 :: b18 :: b19 :: os := by
    have := List.take_append_drop 20 (bs.take hd)
    rw [e20, hos] at this
    exact this.symm
  have eb : ∀ c1 c2, headC (b1 % 256) ((b4 * 256 + b5) % 65536) ((b6 * 256 + b7) % 65536) (b8 % 256) (b9 % 256) (((b12 * 256 + b13) * 256 + b14) * 256 + b15) (((b16 * 256 + b17) * 256 + b18) * 256 + b19) (hd - 20) (bs.length - hd) c1 c2 os
      = b0 :: b1 :: b2 :: b3 :: b4 :: b5 :: b6 :: b7 :: b8 :: b9 :: c1 :: c2 :: b12 :: b13 :: b14 :: b15 :: b16 :: b17 :: b18 :: b19 :: os := by
    intro c1 c2
    unfold headC
    have a0 : 64 + (20 + ((hd - 20 : Nat) : Int)) / 4 = b0 := by omega
    have a1 : b1 % 256 = b1 := by omega
    have a2 : (20 + ((hd - 20 : Nat) : Int) + ((bs.length - hd : Nat) : Int)) / 256 = b2 := by omega
    have a3 : (20 + ((hd - 20 : Nat) : Int) + ((bs.length - hd : Nat) : Int)) % 256 = b3 := by omega
    have a4 : (b4 * 256 + b5) % 65536 / 256 = b4 := by omega
    have a5 : (b4 * 256 + b5) % 65536 % 256 = b5 := by omega
    have a6 : (b6 * 256 + b7) % 65536 / 256 = b6 := by omega
    have a7 : (b6 * 256 + b7) % 65536 % 256 = b7 := by omega
    have a8 : b8 % 256 = b8 := by omega
    have a9 : b9 % 256 = b9 := by omega
    obtain ⟨p1, p2, p3, p4⟩ := four_bytes b12 b13 b14 b15 hb13 hb14 hb15
    obtain ⟨q1, q2, q3, q4⟩ := four_bytes b16 b17 b18 b19 hb17 hb18 hb19
    rw [a0, a1, a2, a3, a4, a5, a6, a7, a8, a9, p1, p2, p3, p4, q1, q2, q3, q4]
  have hc2 : c = b10 * 256 + b11 := by
    rw [hc, hck, eb]
    unfold chkOf
    rw [ehd]
    rfl
  have g1 : c / 256 = b10 := by omega
  have g2 : c % 256 = b11 := by omega
  rw [e2, g1, g2, ← headC_append, eb]
  have := List.take_append_drop hd bs
  rw [hps, ehd] at this
  exact this
/-- One byte behind the first one changed, within the head: it is none. -/
theorem why_byte {bs : List Int} (hin : In 255 bs) (h : whyOf bs = 0) (p : Nat) (hp : 1 ≤ p) (hp2 : p < hlOf bs) (v : Int) (hv : 0 ≤ v ∧ v ≤ 255) (hne : v ≠ bs[p]?.getD 0) : whyOf (bs.set p v) ≠ 0 := by
  intro h'
  obtain ⟨h20, hv0, hl, hlb, hlen, hck, hfl⟩ := why_zero h
  obtain ⟨h20', hv', hl', hlb', hlen', hck', hfl'⟩ := why_zero h'
  have e0 : segAt (bs.set p v) 0 = segAt bs 0 := by
    obtain ⟨q, rfl⟩ : ∃ q, p = q + 1 := ⟨p - 1, by omega⟩
    cases bs with
    | nil => rfl
    | cons b r => simp [segAt, offAt, widthAt, numOf]
  have e1 : hlOf (bs.set p v) = hlOf bs := by unfold hlOf; rw [e0]
  rw [e1] at hck' hl' hlb'
  have et : (bs.set p v).take (hlOf bs) = (bs.take (hlOf bs)).set p v := List.take_set
  rw [et] at hck'
  have hbt : (bs.take (hlOf bs))[p]?.getD 0 = bs[p]?.getD 0 := by rw [List.getElem?_take_of_lt hp2]
  have hint : In 255 (bs.take (hlOf bs)) := fun x hx => hin x (List.mem_of_mem_take hx)
  have htl : (bs.take (hlOf bs)).length = hlOf bs := by simp; omega
  have hbin := getD_in hin (by decide) p
  have s7 : ∀ l : List Int, 20 ≤ l.length → segAt l 7 = l[10]?.getD 0 * 256 + l[11]?.getD 0 := by
    intro l hl
    obtain ⟨b0, b1, b2, b3, b4, b5, b6, b7, b8, b9, b10, b11, b12, b13, b14, b15, b16, b17, b18, b19, r, rfl⟩ := cons20 l hl
    simp [segAt, offAt, widthAt, numOf]
  rw [s7 _ h20'] at hck'
  rw [s7 _ h20] at hck
  rw [getD_set _ _ _ _ (by omega), getD_set _ _ _ _ (by omega)] at hck'
  have hi10 := getD_in hin (by decide) 10
  have hi11 := getD_in hin (by decide) 11
  generalize bs.take (hlOf bs) = zs at *
  unfold chkOf at hck hck'
  by_cases h10 : p = 10
  · subst h10
    rw [if_pos rfl, if_neg (by omega), List.set_set] at hck'
    omega
  by_cases h11 : p = 11
  · subst h11
    rw [if_pos rfl, if_neg (by omega), List.set_comm _ _ (by omega : (11 : Nat) ≠ 10), List.set_set] at hck'
    omega
  rw [if_neg h10, if_neg h11, List.set_comm _ _ h10, List.set_comm _ _ h11] at hck'
  have hb10 : ((zs.set 10 0).set 11 0)[p]?.getD 0 = bs[p]?.getD 0 := by
    rw [getD_set _ _ _ _ (by simp; omega), if_neg (fun e => h11 e.symm), getD_set _ _ _ _ (by omega), if_neg (fun e => h10 e.symm)]
    exact hbt
  have hinc : In 255 ((zs.set 10 0).set 11 0) := in_set (in_set hint _ 0 ⟨by decide, by decide⟩) _ 0 ⟨by decide, by decide⟩
  have hlc : p < ((zs.set 10 0).set 11 0).length := by simp; omega
  generalize (zs.set 10 0).set 11 0 = cs at *
  have hst := tot_words_set cs p hlc v
  have ht0 := tot_in _ (words_in hinc)
  have ht1 := tot_in _ (words_in (in_set hinc p v hv))
  unfold sumOf at hck hck'
  have hcr : cr (tot (words (cs.set p v))) = cr (tot (words cs)) := by omega
  rw [hst] at hcr ht1
  rw [hb10] at hcr ht1
  generalize bs[p]?.getD 0 = u at *
  generalize tot (words cs) = t at *
  unfold cr at hcr
  have hd : (v - u) * (if p % 2 = 0 then 256 else 1) ≠ 0 ∧ -65535 < (v - u) * (if p % 2 = 0 then 256 else 1) ∧ (v - u) * (if p % 2 = 0 then 256 else 1) < 65535 := by
    split <;> omega
  generalize (v - u) * (if p % 2 = 0 then 256 else 1) = d at *
  split at hcr <;> split at hcr <;> omega
theorem putOf_length {sv nu fl ho pr sr ds : Int} {on pn : Nat} (os ps : List Int) (H : Nums sv nu fl ho pr sr ds) (hs : on ≤ 40 ∧ on % 4 = 0 ∧ 20 + on + pn ≤ 65535) (hol : os.length = on) (hpl : ps.length = pn) : (putOf sv nu fl ho pr sr ds on pn os ps).length = 20 + on + pn := by
  obtain ⟨c, _, _, _, e⟩ := putOf_eq os ps H hs
  rw [e, headC_length, List.length_append]
  omega
theorem seg0_set (bs : List Int) (v : Int) (h : 20 ≤ bs.length) : segAt (bs.set 0 v) 0 = v := by
  obtain ⟨b0, b1, b2, b3, b4, b5, b6, b7, b8, b9, b10, b11, b12, b13, b14, b15, b16, b17, b18, b19, r, rfl⟩ := cons20 bs h
  simp [segAt, offAt, widthAt, numOf]
theorem seg0_get (bs : List Int) (h : 20 ≤ bs.length) : segAt bs 0 = bs[0]?.getD 0 := by
  obtain ⟨b0, b1, b2, b3, b4, b5, b6, b7, b8, b9, b10, b11, b12, b13, b14, b15, b16, b17, b18, b19, r, rfl⟩ := cons20 bs h
  simp [segAt, offAt, widthAt, numOf]
/-- Another version. -/
theorem why_version {bs : List Int} (h : 20 ≤ bs.length) (v : Int) : whyOf (bs.set 0 v) = 2 ↔ v / 16 ≠ 4 := by
  unfold whyOf
  rw [seg0_set _ _ h, List.length_set, if_neg (by omega)]
  by_cases hv : v / 16 ≠ 4
  · rw [if_pos hv]; simp [hv]
  · rw [if_neg hv]
    constructor
    · intro h'
      (repeat' split at h') <;> omega
    · exact fun h' => absurd h' hv
/-- Another number of words. -/
theorem why_words {bs : List Int} (h : 20 ≤ bs.length) (k : Int) (hk : 0 ≤ k ∧ k ≤ 15) : whyOf (bs.set 0 (64 + k)) = 3 ↔ k * 4 < 20 ∨ bs.length < k * 4 := by
  have hh : (hlOf (bs.set 0 (64 + k)) : Int) = k * 4 := by
    unfold hlOf
    rw [seg0_set _ _ h]
    omega
  unfold whyOf
  rw [seg0_set _ _ h, List.length_set, if_neg (by omega), if_neg (by omega)]
  by_cases hv : hlOf (bs.set 0 (64 + k)) < 20 ∨ bs.length < hlOf (bs.set 0 (64 + k))
  · rw [if_pos hv]
    constructor
    · intro _; omega
    · intro _; rfl
  · rw [if_neg hv]
    constructor
    · intro h'
      (repeat' split at h') <;> omega
    · intro h'; omega
theorem why_few {bs : List Int} (h : bs.length < 20) : whyOf bs = 1 := by
  unfold whyOf
  rw [if_pos h]
theorem seg2_take (bs : List Int) (n : Nat) (h : 20 ≤ n) : segAt (bs.take n) 2 = segAt bs 2 := by
  unfold segAt
  rw [List.drop_take, List.take_take, Nat.min_eq_left (by show 2 ≤ n - 2; omega)]
theorem seg_append (bs cs : List Int) (i : Nat) (hi : i < 10) (h : 20 ≤ bs.length) : segAt (bs ++ cs) i = segAt bs i := by
  have := (offAt_succ i hi).2
  unfold segAt
  rw [List.drop_append_of_le_length (by omega), List.take_append_of_le_length (by simp; omega)]
/-- One byte more. -/
theorem why_more {bs : List Int} (h : whyOf bs = 0) (c : Int) : whyOf (bs ++ [c]) = 4 := by
  obtain ⟨h20, hv, hl, hlb, hlen, hck, hfl⟩ := why_zero h
  have e0 := seg_append bs [c] 0 (by decide) h20
  have e2 := seg_append bs [c] 2 (by decide) h20
  have eh : hlOf (bs ++ [c]) = hlOf bs := by unfold hlOf; rw [e0]
  unfold whyOf
  rw [List.length_append, eh, e0, e2]
  simp only [List.length_cons, List.length_nil]
  rw [if_neg (by omega), if_neg (by omega), if_neg (by omega), if_pos (by omega)]
/-- One byte fewer. -/
theorem why_less {bs : List Int} (h : whyOf bs = 0) : whyOf (bs.take (bs.length - 1)) ≠ 0 := by
  intro h'
  obtain ⟨h20, hv, hl, hlb, hlen, hck, hfl⟩ := why_zero h
  obtain ⟨h20', hv', hl', hlb', hlen', hck', hfl'⟩ := why_zero h'
  rw [List.length_take] at h20'
  rw [seg2_take _ _ (by omega), List.length_take] at hlen'
  omega
theorem putOf_take {sv nu fl ho pr sr ds : Int} {on pn : Nat} (os ps : List Int) (H : Nums sv nu fl ho pr sr ds) (hs : on ≤ 40 ∧ on % 4 = 0 ∧ 20 + on + pn ≤ 65535) (hol : os.length = on) (hin : In 255 os) : sumOf ((putOf sv nu fl ho pr sr ds on pn os ps).take (20 + on)) = 65535 := by
  obtain ⟨c, hc, _, _, e⟩ := putOf_eq os ps H hs
  rw [e, ← hol, headC_take]
  have hi : In 255 (headC sv nu fl ho pr sr ds os.length pn 0 0 os) := by
    have := headOf_in (sv := sv) (nu := nu) (fl := fl) (ho := ho) (pr := pr) (sr := sr) (ds := ds) (on := os.length) (pn := pn) hin
    rwa [headOf_eq os H (by rw [hol]; exact hs)] at this
  have := right_set _ hi 5 (by rw [headC_length]; omega) c (by rw [hc, ← hol]; rfl)
  exact this
/-- Other flags laid in, and the check anew. -/
theorem putOf_flags {sv nu fl ho pr sr ds : Int} {on pn : Nat} (os ps : List Int) (H : Nums sv nu fl ho pr sr ds) (hs : on ≤ 40 ∧ on % 4 = 0 ∧ 20 + on + pn ≤ 65535) (hol : os.length = on) (f : Int) (hf : 0 ≤ f ∧ f ≤ 65535) :
    ∃ qs, qs = ((((putOf sv nu fl ho pr sr ds on pn os ps).set 6 (f / 256)).set 7 (f % 256)).set 10 0).set 11 0 ∧
      (qs.set 10 ((65535 - sumOf (qs.take (20 + on))) / 256)).set 11 ((65535 - sumOf (qs.take (20 + on))) % 256) = putOf sv nu f ho pr sr ds on pn os ps := by
  refine ⟨_, rfl, ?_⟩
  obtain ⟨c, _, _, _, e⟩ := putOf_eq os ps H hs
  have H' : Nums sv nu f ho pr sr ds := ⟨H.hsv, H.hnu, hf, H.hho, H.hpr, H.hsr, H.hds⟩
  obtain ⟨c', hc', _, _, e'⟩ := putOf_eq os ps H' hs
  rw [e, e']
  have eq : ((((headC sv nu fl ho pr sr ds on pn (c / 256) (c % 256) (os ++ ps)).set 6 (f / 256)).set 7 (f % 256)).set 10 0).set 11 0 = headC sv nu f ho pr sr ds on pn 0 0 (os ++ ps) := rfl
  rw [eq, show 20 + on = 20 + os.length by rw [hol], headC_take, headC_set, hc']
end Go.Proofs.YthenbpnlmpeafaaDoor

/- Whether two heads are the same, by the document. -/
namespace Go.Proofs.YthenbpnlmpeafaaDoor
open Go.RowKit
open SumM

end Go.Proofs.YthenbpnlmpeafaaDoor


/- 'handfastlaw02.wakes' returns true, in whatever memory in which the package's table lies as its text lays it. -/
namespace Go.Proofs.YthenbpnlmpeafaaDoor
open Go.RowKit
open SumM

theorem Wid.below {w w' : World} (h : Wid w) (hg : 0 < w.heap.size) (hb : Below w.heap.size w w') : Wid w' := fun i hi => (hb.cell (p := ⟨0, i, none⟩) hg).trans (h i hi)
theorem putOf_in {sv nu fl ho pr sr ds : Int} {on pn : Nat} {os ps : List Int} (hio : In 255 os) (hip : In 255 ps) : In 255 (putOf sv nu fl ho pr sr ds on pn os ps) := by
  have hc := cr_in (tot (words (headOf sv nu fl ho pr sr ds on pn os)))
  unfold putOf
  intro x hx
  rcases List.mem_append.1 hx with h | h
  · refine in_set (in_set (headOf_in hio) 10 _ ?_) 11 _ ?_ x h
    · unfold sumOf; omega
    · unfold sumOf; omega
  · exact hip x h

/-- Bytes that were put, parsed. -/
theorem parse_put (sv nu fl ho pr sr ds : Int) (on pn : Nat) (os ps : List Int) (H : Nums sv nu fl ho pr sr ds) (hrt : rightB fl on pn = true) (hol : os.length = on) (hpl : ps.length = pn) (A : Option Addr) (len cap : Nat) (hlen : len = 20 + on + pn) (hlc : len ≤ cap) (hc : cap ≤ 9223372036854775807) (w : World) (hg : 0 < w.heap.size) (hW : Wid w)
    (hR : Row .u8 w.heap.size w A (putOf sv nu fl ho pr sr ds on pn os ps)) :
    Calls Tryd.prog 34 #[.slice A len cap] w fun e w' => ∃ v, e = .returned (.tuple #[v, .int .u8 0]) ∧ HeadRet sv nu fl ho pr sr ds os ps w v w' := by
  have hs := rightB_le hrt
  have hfl := (of_decide_eq_true hrt).1
  refine (ipParse_any A len cap _ (by rw [putOf_length os ps H hs hol hpl, hlen]) hlc hc (by omega) w hg hW hR).mono ?_
  have hy := why_put os ps H hs hol hpl
  rw [if_neg (by omega)] at hy
  obtain ⟨q1, q2, q3, q4, q5, q6, q7, q8, q9⟩ := put_seg os ps H hs hol
  rintro e w' (⟨h, _⟩ | ⟨_, v, rfl, h⟩)
  · exact absurd hy h
  · rw [q1, q2, q3, q4, q5, q6, q7, q8, q9] at h
    exact ⟨v, rfl, h⟩
/-- Bytes that are none. -/
theorem parse_no (bs : List Int) (A : Option Addr) (len cap : Nat) (hlen : bs.length = len) (hlc : len ≤ cap) (hc : cap ≤ 9223372036854775807) (hln : len ≤ 1000000) (w : World) (hg : 0 < w.heap.size) (hW : Wid w) (hR : Row .u8 w.heap.size w A bs) (hy : whyOf bs ≠ 0) :
    Calls Tryd.prog 34 #[.slice A len cap] w fun e w' => e = .returned (.tuple #[.agg #[.int .u8 0, .int .u16 0, .int .u16 0, .int .u8 0, .int .u8 0, .int .u32 0, .int .u32 0, .slice none 0 0, .slice none 0 0], .int .u8 (whyOf bs)]) ∧ Below w.heap.size w w' := by
  refine (ipParse_any A len cap bs hlen hlc hc hln w hg hW hR).mono ?_
  rintro e w' (⟨_, h⟩ | ⟨h, _⟩)
  · exact h
  · exact absurd h hy

/-- Bytes of a known number, in memory of the call's own, and true. -/
def PutN (n : Nat) (zs : List Int) (w : World) (e : Ending) (w' : World) : Prop :=
  ∃ A c, e = .returned (.tuple #[.slice A n c, .bool true]) ∧ w'.ownsRow w.heap.size 5 1 (.slice A n c) n (zs.map (Value.int .u8)) ∧ Below w.heap.size w w'
theorem put_n (sv nu fl ho pr sr ds : Int) (oa : Option Addr) (on oc : Nat) (pa : Option Addr) (pn pc : Nat) (os ps : List Int) (H : Nums sv nu fl ho pr sr ds) (hrt : rightB fl on pn = true) (w : World) (hg : 0 < w.heap.size) (hW : Wid w)
    (hro : Row .u8 w.heap.size w oa os) (hol : os.length = on) (hon : oa = none → oc = 0) (hrp : Row .u8 w.heap.size w pa ps) (hpl : ps.length = pn) (hpn : pa = none → pc = 0) :
    Calls Tryd.prog 31 #[.agg #[.int .u8 sv, .int .u16 nu, .int .u16 fl, .int .u8 ho, .int .u8 pr, .int .u32 sr, .int .u32 ds, .slice oa on oc, .slice pa pn pc]] w (PutN (20 + on + pn) (putOf sv nu fl ho pr sr ds on pn os ps) w) := by
  refine (ipPut_yes sv nu fl ho pr sr ds oa on oc pa pn pc os ps H hrt w hg hW hro hol hon hrp hpl hpn).mono ?_
  rintro e w' ⟨A, c, rfl, hO, hb⟩
  rw [putOf_length os ps H (rightB_le hrt) hol hpl] at hO ⊢
  exact ⟨A, c, rfl, hO, hb⟩

theorem nums_of (ho pr : Int) (h1 : 0 ≤ ho ∧ ho ≤ 255) (h2 : 0 ≤ pr ∧ pr ≤ 255) : Nums 0 0 0 ho pr 0 0 := ⟨by decide, by decide, by decide, h1, h2, by decide, by decide⟩
theorem put_a (w : World) (hg : 0 < w.heap.size) (hW : Wid w) :
    Calls Tryd.prog 31 #[.agg #[.int .u8 0, .int .u16 0, .int .u16 0, .int .u8 0, .int .u8 0, .int .u32 0, .int .u32 0, .slice none 0 0, .slice none 0 0]] w (PutN 20 [69, 0, 0, 20, 0, 0, 0, 0, 0, 0, 186, 235, 0, 0, 0, 0, 0, 0, 0, 0] w) := by
  have := put_n 0 0 0 0 0 0 0 none 0 0 none 0 0 [] [] (nums_of 0 0 (by decide) (by decide)) (by decide) w hg hW (Row.nil _ _ _ _) rfl (fun _ => rfl) (Row.nil _ _ _ _) rfl (fun _ => rfl)
  rwa [show putOf 0 0 0 0 0 0 0 0 0 [] [] = [69, 0, 0, 20, 0, 0, 0, 0, 0, 0, 186, 235, 0, 0, 0, 0, 0, 0, 0, 0] by decide +kernel] at this
theorem put_d (w : World) (hg : 0 < w.heap.size) (hW : Wid w) :
    Calls Tryd.prog 31 #[.agg #[.int .u8 0, .int .u16 0, .int .u16 0, .int .u8 64, .int .u8 6, .int .u32 0, .int .u32 0, .slice none 0 0, .slice none 0 0]] w (PutN 20 [69, 0, 0, 20, 0, 0, 0, 0, 64, 6, 122, 229, 0, 0, 0, 0, 0, 0, 0, 0] w) := by
  have := put_n 0 0 0 64 6 0 0 none 0 0 none 0 0 [] [] (nums_of 64 6 (by decide) (by decide)) (by decide) w hg hW (Row.nil _ _ _ _) rfl (fun _ => rfl) (Row.nil _ _ _ _) rfl (fun _ => rfl)
  rwa [show putOf 0 0 0 64 6 0 0 0 0 [] [] = [69, 0, 0, 20, 0, 0, 0, 0, 64, 6, 122, 229, 0, 0, 0, 0, 0, 0, 0, 0] by decide +kernel] at this
theorem put_c (oa pa : Addr) (w : World) (hg : 0 < w.heap.size) (hW : Wid w) (hro : Row .u8 w.heap.size w (some oa) [1, 2, 3, 4]) (hrp : Row .u8 w.heap.size w (some pa) [9]) :
    Calls Tryd.prog 31 #[.agg #[.int .u8 0, .int .u16 0, .int .u16 0, .int .u8 64, .int .u8 6, .int .u32 0, .int .u32 0, .slice (some oa) 4 4, .slice (some pa) 1 1]] w (PutN 25 (putOf 0 0 0 64 6 0 0 4 1 [1, 2, 3, 4] [9]) w) :=
  put_n 0 0 0 64 6 0 0 (some oa) 4 4 (some pa) 1 1 [1, 2, 3, 4] [9] (nums_of 64 6 (by decide) (by decide)) (by decide) w hg hW hro rfl (fun h => by cases h) hrp rfl (fun h => by cases h)

end Go.Proofs.YthenbpnlmpeafaaDoor
