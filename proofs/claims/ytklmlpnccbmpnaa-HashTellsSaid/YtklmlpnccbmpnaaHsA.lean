/- Which bucket a tuple is of: the document's own answers (handfastref08), and what they are. -/
import Derived.Test.YtklmlpnccbmpnaaTupB
namespace Go.Proofs.Ytklmlpnccbmpnaa
open Go.RowKit Go.Shelf
open SumM

/-- The turn of a byte; the byte of a turn; XOR of bytes; a state behind bytes; a bucket. -/
def trn (c : Int) : Int := (167 * c + 13) % 256 % 16 * 16 + (167 * c + 13) % 256 / 16
def unt (c : Int) : Int := ((c % 16 * 16 + c / 16 + 243) * 23) % 256
def xr (x y : Int) : Int := bits .xor .u8 x y
def goS (s : Int) (bs : List Int) : Int := bs.foldl (fun s c => trn (xr s c)) s
def bkt (s : Int) : Int := bits .xor .i64 (s / 16) (s % 16)
theorem trn_fin : ∀ n : Fin 256, unt (trn (n.val : Int)) = (n.val : Int) ∧ trn (unt (n.val : Int)) = (n.val : Int) := by decide +kernel
theorem trn_in (c : Int) : 0 ≤ trn c ∧ trn c ≤ 255 := by
  unfold trn
  omega
theorem unt_in (c : Int) : 0 ≤ unt c ∧ unt c ≤ 255 := by
  unfold unt
  omega
theorem unt_trn {c : Int} (h : 0 ≤ c ∧ c ≤ 255) : unt (trn c) = c := by
  have h1 := (trn_fin ⟨c.toNat, by omega⟩).1
  rwa [show ((⟨c.toNat, by omega⟩ : Fin 256).val : Int) = c by simp; omega] at h1
theorem trn_unt {c : Int} (h : 0 ≤ c ∧ c ≤ 255) : trn (unt c) = c := by
  have h1 := (trn_fin ⟨c.toNat, by omega⟩).2
  rwa [show ((⟨c.toNat, by omega⟩ : Fin 256).val : Int) = c by simp; omega] at h1
theorem trn_inj {c d : Int} (h : 0 ≤ c ∧ c ≤ 255) (k : 0 ≤ d ∧ d ≤ 255) (e : trn c = trn d) : c = d := by rw [← unt_trn h, ← unt_trn k, e]
theorem xr_in {x y : Int} (hx : 0 ≤ x ∧ x ≤ 255) (hy : 0 ≤ y ∧ y ≤ 255) : 0 ≤ xr x y ∧ xr x y ≤ 255 := xor_in x y hx hy
theorem goS_in : ∀ (bs : List Int) {s : Int}, 0 ≤ s ∧ s ≤ 255 → 0 ≤ goS s bs ∧ goS s bs ≤ 255
  | [], _, h => h
  | c :: r, s, _ => goS_in r (trn_in (xr s c))
theorem goS_append (a b : List Int) (s : Int) : goS s (a ++ b) = goS (goS s a) b := by simp [goS, List.foldl_append]
theorem goS_succ (bs : List Int) (s : Int) (k : Nat) (h : k < bs.length) : goS s (bs.take (k + 1)) = trn (xr (goS s (bs.take k)) (bs[k]?.getD 0)) := by
  rw [List.take_add_one, goS_append, List.getElem?_eq_getElem h]
  rfl

set_option maxRecDepth 100000 in
theorem r8Turn_any (c : Int) (h : 0 ≤ c ∧ c ≤ 255) (w : World) : Calls Try.prog 16 #[.int .u8 c] w fun e w' => e = .returned (.int .u8 (trn c)) ∧ w = w' := by
  go_enter Try.func16, Try.ntmps16
  go_wp2
  go_ret
  refine ⟨?_, rfl⟩
  have e : trn c = (167 * c + 13) % 16 * 16 + (167 * c + 13) % 256 / 16 := by
    unfold trn
    omega
  rw [e]
  rfl

set_option maxRecDepth 100000 in
set_option maxHeartbeats 1600000 in
theorem r8Unturn_any (c : Int) (h : 0 ≤ c ∧ c ≤ 255) (w : World) : Calls Try.prog 18 #[.int .u8 c] w fun e w' => e = .returned (.int .u8 (unt c)) ∧ w = w' := by
  have hu := unt_in c
  have HU := Lib.hid (trn_unt h)
  have HC := Lib.hid h
  clear h
  go_enter Try.func18, Try.ntmps18
  go_wp2
  go_loop [3] (fun i => ∃ k : Nat, (k : Int) ≤ unt c ∧ i = .int .i64 k) (fun i => 256 - (intOf i).toNat)
  case atStart => exact ⟨0, by omega, rfl⟩
  case round =>
    obtain ⟨k, hk, rfl⟩ := hrel
    have hk0 : (0 : Int) ≤ (k : Int) := by omega
    have hk2 : (k : Int) < 256 := by omega
    have hk3 : (k : Int) ≤ 255 := by omega
    have K := Lib.hid (r8Turn_any (k : Int) ⟨hk0, hk3⟩ w)
    go_wp2_with (fail)
    refine K.out.mono ?_
    rintro e w1 ⟨rfl, rfl⟩
    by_cases he : (k : Int) = unt c
    · have p1 : (trn (k : Int) == c) = true := by rw [he, HU.out]; simp
      have HE := Lib.hid he
      clear he
      go_wp2
      go_ret
      exact ⟨by rw [← HE.out]; rfl, rfl⟩
    · have p1 : (trn (k : Int) == c) = false := by
        simp only [beq_eq_false_iff_ne]
        intro h2
        exact he (by rw [← h2, unt_trn ⟨hk0, hk3⟩])
      have hlt : (k : Int) < unt c := by omega
      clear he
      go_wp2
      go_round
      case rel => exact ⟨k + 1, by omega, by go_num⟩
      case measure => simp [intOf]; omega

set_option maxRecDepth 100000 in
set_option maxHeartbeats 1600000 in
theorem r8Go_any (s : Int) (hs : 0 ≤ s ∧ s ≤ 255) (a : Option Addr) (len cap B : Nat) (bs : List Int) (w : World) (h : Row .u8 B w a bs) (hl : bs.length = len) (hm : len ≤ 1000000) : Calls Try.prog 20 #[.int .u8 s, .slice a len cap] w fun e w' => e = .returned (.int .u8 (goS s bs)) ∧ w = w' := by
  have HI := Lib.hid (row_in h)
  have HR := Lib.hid h
  have HL := Lib.hid hl
  have HS := Lib.hid hs
  clear h hl hs
  go_enter Try.func20, Try.ntmps20
  go_wp2
  go_loop [0, 5] (fun x i => ∃ k : Nat, k ≤ len ∧ i = .int .i64 k ∧ x = .int .u8 (goS s (bs.take k))) (fun _ i => len - (intOf i).toNat)
  case atStart => exact ⟨0, by omega, rfl, rfl⟩
  case round =>
    obtain ⟨k, hk, rfl, rfl⟩ := hrel
    by_cases hlt : k < len
    · obtain ⟨b, off, rfl, hb, hc⟩ := HR.out.2 (by rw [HL.out]; omega)
      have hck := hc k (by rw [HL.out]; omega)
      have hsg := goS_in (bs.take k) HS.out
      have hcg := getD_in HI.out (by decide) k
      have hx := xr_in hsg hcg
      have HN := Lib.hid (goS_succ bs s k (by rw [HL.out]; omega))
      have hk12 : (k : Int) < (len : Int) := by omega
      generalize goS s (bs.take k) = g at *
      generalize bs[k]?.getD 0 = c at *
      have K := Lib.hid (r8Turn_any (bits .xor .u8 g c) hx w)
      clear hc
      go_wp2_with (fail)
      refine K.out.mono ?_
      rintro e w1 ⟨rfl, rfl⟩
      go_wp2
      go_round
      case rel => exact ⟨k + 1, by omega, by go_num, by rw [HN.out]; rfl⟩
      case measure => simp [intOf]; omega
    · obtain rfl : k = len := by omega
      clear hlt
      go_wp2
      go_ret
      exact ⟨by rw [List.take_of_length_le (by rw [HL.out]; exact Nat.le_refl _)]; rfl, rfl⟩

/-- A tuple's sum, its bucket. -/
def sumU (ts td tp tq : Int) : Int := goS 0 (tupB ts td tp tq)
def ofU (ts td tp tq : Int) : Int := bkt (sumU ts td tp tq)
theorem sumU_in (ts td tp tq : Int) : 0 ≤ sumU ts td tp tq ∧ sumU ts td tp tq ≤ 255 := goS_in _ (by decide)

set_option maxRecDepth 100000 in
set_option maxHeartbeats 1600000 in
theorem r8Sum_any (ts td tp tq : Int) (H : UNums ts td tp tq) (w : World) : Calls Try.prog 22 #[.agg #[.int .u32 ts, .int .u32 td, .int .u16 tp, .int .u16 tq]] w fun e w' => e = .returned (.int .u8 (sumU ts td tp tq)) ∧ Below w.heap.size w w' := by
  have bU := heap_alloc_new w (.cells #[.int .u32 ts, .int .u32 td, .int .u16 tp, .int .u16 tq] 26)
  have L0 := (Below.refl w.heap.size w).alloc (Nat.le_refl _) (.cells #[.int .u32 ts, .int .u32 td, .int .u16 tp, .int .u16 tq] 26)
  obtain ⟨q0, q1, q2, q3⟩ := tup_cells _ _ _ _ bU
  have HH := Lib.hid H
  clear H
  go_enter Try.func22, Try.ntmps22
  go_upto_region 1 with (fail)
  generalize w.alloc (.cells #[.int .u32 ts, .int .u32 td, .int .u16 tp, .int .u16 tq] 26) = W0 at *
  have K := Lib.hid (r4Bytes_any ts td tp tq HH.out W0)
  go_wp2_with (fail)
  refine K.out.mono ?_
  intro e w1 h1
  obtain ⟨A, c, rfl, ho, m⟩ := h1
  have R1 := Row.of_own ho (r4wf _ (tupB_in ts td tp tq))
  have K2 := Lib.hid (r8Go_any 0 (by decide) A 12 c _ (tupB ts td tp tq) w1 R1 rfl (by decide))
  have M1 := Lib.hid (L0.trans (m.mono L0.size))
  clear ho m R1
  go_wp2_with (fail)
  refine K2.out.mono ?_
  rintro e2 w2 ⟨rfl, rfl⟩
  go_wp2
  go_ret
  exact ⟨rfl, M1.out⟩

set_option maxRecDepth 100000 in
set_option maxHeartbeats 1600000 in
theorem r8Of_any (ts td tp tq : Int) (H : UNums ts td tp tq) (w : World) : Calls Try.prog 14 #[.agg #[.int .u32 ts, .int .u32 td, .int .u16 tp, .int .u16 tq]] w fun e w' => e = .returned (.int .i64 (ofU ts td tp tq)) ∧ Below w.heap.size w w' := by
  have bU := heap_alloc_new w (.cells #[.int .u32 ts, .int .u32 td, .int .u16 tp, .int .u16 tq] 26)
  have L0 := (Below.refl w.heap.size w).alloc (Nat.le_refl _) (.cells #[.int .u32 ts, .int .u32 td, .int .u16 tp, .int .u16 tq] 26)
  obtain ⟨q0, q1, q2, q3⟩ := tup_cells _ _ _ _ bU
  have HH := Lib.hid H
  have HS := Lib.hid (sumU_in ts td tp tq)
  clear H
  go_enter Try.func14, Try.ntmps14
  go_upto_region 1 with (fail)
  generalize w.alloc (.cells #[.int .u32 ts, .int .u32 td, .int .u16 tp, .int .u16 tq] 26) = W0 at *
  have K := Lib.hid (r8Sum_any ts td tp tq HH.out W0)
  go_wp2_with (fail)
  refine K.out.mono ?_
  rintro e w1 ⟨rfl, m⟩
  have M1 := Lib.hid (L0.trans (m.mono L0.size))
  have e0 : ofU ts td tp tq = bits .xor .i64 (sumU ts td tp tq / 16) (sumU ts td tp tq % 16) := rfl
  generalize sumU ts td tp tq = x at *
  have hx := HS.out
  clear m
  go_wp2
  go_ret
  refine ⟨?_, M1.out⟩
  rw [e0]
  rfl

set_option maxRecDepth 100000 in
set_option maxHeartbeats 1600000 in
theorem r8Same_any (ts td tp tq : Int) (ts' td' tp' tq' : Int) (H : UNums ts td tp tq) (H' : UNums ts' td' tp' tq') (w : World) :
    Calls Try.prog 25 #[.agg #[.int .u32 ts, .int .u32 td, .int .u16 tp, .int .u16 tq], .agg #[.int .u32 ts', .int .u32 td', .int .u16 tp', .int .u16 tq']] w fun e w' => e = .returned (.bool (ofU ts td tp tq == ofU ts' td' tp' tq')) ∧ Below w.heap.size w w' := by
  have bO := heap_alloc_new (w.alloc (.cells #[.int .u32 ts, .int .u32 td, .int .u16 tp, .int .u16 tq] 26)) (.cells #[.int .u32 ts', .int .u32 td', .int .u16 tp', .int .u16 tq'] 26)
  rw [World.size_alloc] at bO
  have bH := (Below.heap_alloc (w.alloc (.cells #[.int .u32 ts, .int .u32 td, .int .u16 tp, .int .u16 tq] 26)) (.cells #[.int .u32 ts', .int .u32 td', .int .u16 tp', .int .u16 tq'] 26) w.heap.size (by simp)).trans (heap_alloc_new w (.cells #[.int .u32 ts, .int .u32 td, .int .u16 tp, .int .u16 tq] 26))
  have L0 := ((Below.refl w.heap.size w).alloc (Nat.le_refl _) (.cells #[.int .u32 ts, .int .u32 td, .int .u16 tp, .int .u16 tq] 26)).alloc (by simp) (.cells #[.int .u32 ts', .int .u32 td', .int .u16 tp', .int .u16 tq'] 26)
  have HH := Lib.hid H
  have HH' := Lib.hid H'
  clear H H'
  obtain ⟨q0, q1, q2, q3⟩ := tup_cells _ _ _ _ bH
  obtain ⟨z0, z1, z2, z3⟩ := tup_cells _ _ _ _ bO
  go_enter Try.func25, Try.ntmps25
  go_upto_region 1 with (fail)
  generalize (w.alloc (.cells #[.int .u32 ts, .int .u32 td, .int .u16 tp, .int .u16 tq] 26)).alloc (.cells #[.int .u32 ts', .int .u32 td', .int .u16 tp', .int .u16 tq'] 26) = W0 at *
  have CS := Lib.hid (fun W (m : Below W0.heap.size W0 W) => And.intro (tup_cells _ _ _ _ ((m.block _ (Array.getElem?_eq_some_iff.1 bH).1).trans bH)) (tup_cells _ _ _ _ ((m.block _ (Array.getElem?_eq_some_iff.1 bO).1).trans bO)))
  have CT := Lib.hid (fun W (m : Below W0.heap.size W0 W) => show W.cell? ⟨w.heap.size, 0, none⟩ = some (.int .u32 ts) ∧ W.cell? ⟨w.heap.size, 1, none⟩ = some (.int .u32 td) ∧ W.cell? ⟨w.heap.size, 2, none⟩ = some (.int .u16 tp) ∧ W.cell? ⟨w.heap.size, 3, none⟩ = some (.int .u16 tq) ∧ W.cell? ⟨w.heap.size + 1, 0, none⟩ = some (.int .u32 ts') ∧ W.cell? ⟨w.heap.size + 1, 1, none⟩ = some (.int .u32 td') ∧ W.cell? ⟨w.heap.size + 1, 2, none⟩ = some (.int .u16 tp') ∧ W.cell? ⟨w.heap.size + 1, 3, none⟩ = some (.int .u16 tq') from
    ⟨(CS.out W m).1.1, (CS.out W m).1.2.1, (CS.out W m).1.2.2.1, (CS.out W m).1.2.2.2, (CS.out W m).2.1, (CS.out W m).2.2.1, (CS.out W m).2.2.2.1, (CS.out W m).2.2.2.2⟩)
  have n0 := (Below.refl W0.heap.size W0).drew
  clear bH bO q0 q1 q2 q3 z0 z1 z2 z3 CS
  go_region_held3 (fun W => W.cell? ⟨w.heap.size, 0, none⟩ = some (.int .u32 ts) ∧ W.cell? ⟨w.heap.size, 1, none⟩ = some (.int .u32 td) ∧ W.cell? ⟨w.heap.size, 2, none⟩ = some (.int .u16 tp) ∧ W.cell? ⟨w.heap.size, 3, none⟩ = some (.int .u16 tq) ∧ W.cell? ⟨w.heap.size + 1, 0, none⟩ = some (.int .u32 ts') ∧ W.cell? ⟨w.heap.size + 1, 1, none⟩ = some (.int .u32 td') ∧ W.cell? ⟨w.heap.size + 1, 2, none⟩ = some (.int .u16 tp') ∧ W.cell? ⟨w.heap.size + 1, 3, none⟩ = some (.int .u16 tq'))
    (first | with_reducible exact CT.out _ n2 | with_reducible exact CT.out _ n1 | with_reducible exact CT.out _ n0)
    (first
      | (go_at_call 14; (with_reducible refine (r8Of_any ts td tp tq HH.out W0.drew).mono ?_); rintro e w1 ⟨rfl, k1⟩; have n1 := n0.trans (k1.mono n0.size))
      | (go_at_call 14; (with_reducible refine (r8Of_any ts' td' tp' tq' HH'.out w1).mono ?_); rintro e w2 ⟨rfl, k2⟩; have n2 := n1.trans (k2.mono n1.size)))
  have L2 := L0.trans (n2.mono L0.size)
  clear CT
  go_wp2
  go_ret
  exact ⟨rfl, L2⟩
end Go.Proofs.Ytklmlpnccbmpnaa
