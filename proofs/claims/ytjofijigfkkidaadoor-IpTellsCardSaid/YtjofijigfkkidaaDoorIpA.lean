/- What the small functions of package ip answer: Right, Size, layCheck, appendNumber, numberIn; bytes.Clone, bytes.Equal. -/
import Derived.Test.YtjofijigfkkidaaDoorOpen
import Derived.Test.YtjofijigfkkidaaDoorIpM
import Derived.Lib.SliceRun
import Derived.Test.YtjofijigfkkidaaDoorRef
import Derived.Test.YtjofijigfkkidaaDoorChecks
namespace Go.Proofs.YtjofijigfkkidaaDoor
open Go.RowKit
open SumM

/-- Whether a head may be: by its flags, and by how long its options and its payload are. -/
def rightB (fl : Int) (on pn : Nat) : Bool := decide ((fl = 0 ∨ fl = 16384) ∧ on ≤ 40 ∧ on % 4 = 0 ∧ 20 + on + pn ≤ 65535)
theorem ret_bool {a b : Bool} (h : a = b) : Ending.returned (.bool a) = .returned (.bool b) := by rw [h]
theorem ret_int {k : IntKind} {a b : Int} (h : a = b) : Ending.returned (.int k a) = .returned (.int k b) := by rw [h]
/-- The call hands back a slice of bytes in memory of its own. -/
def OwnRet (zs : List Int) (w : World) (e : Ending) (w' : World) : Prop :=
  ∃ a c, e = .returned (.slice a zs.length c) ∧ w'.ownsRow w.heap.size 5 1 (.slice a zs.length c) zs.length (zs.map (Value.int .u8)) ∧ Below w.heap.size w w'
theorem own_nil {w : World} {base : Nat} {e : TypeId} {a : Option Addr} {n c : Nat} {xs : List Value} (h : w.ownsRow base e 1 (.slice a n c) n xs) : a = none → c = 0 := by
  rintro rfl
  obtain ⟨_, ⟨h1, _⟩ | ⟨g, cap, cur, h1, _⟩⟩ := h
  · injection h1
  · cases h1
theorem bcell {W w1 : World} (hb : Below W.heap.size W w1) : (∀ b o, b < W.heap.size → w1.cell? ⟨b, o, none⟩ = W.cell? ⟨b, o, none⟩) ∧ (∀ b o, b < W.heap.size → w1.frozen? ⟨b, o, none⟩ = W.frozen? ⟨b, o, none⟩) :=
  ⟨fun b o h => hb.cell (p := ⟨b, o, none⟩) h, fun b o h => hb.frozen (p := ⟨b, o, none⟩) h⟩
theorem below_alloc1 {w w1 : World} {o : Obj} (h : Below (w.alloc o).heap.size (w.alloc o) w1) : Below w.heap.size w w1 :=
  ((Below.refl w.heap.size w).alloc (Nat.le_refl _) o).trans (h.mono (by simp))

theorem Tryd.infoU8 : (Tryd.prog.info? 5).map (fun i => (i.zero, i.size, i.bytes)) = some (some (.int .u8 0), 1, 1) := by kernel_rfl

set_option maxRecDepth 100000 in
set_option maxHeartbeats 1000000 in
theorem ipRight_any (sv nu fl ho pr sr ds : Int) (oa : Option Addr) (on oc : Nat) (pa : Option Addr) (pn pc : Nat) (w : World) (ho' : on ≤ 281474976710656) (_hp' : pn ≤ 281474976710656) :
    Calls Tryd.prog 14 #[.agg #[.int .u8 sv, .int .u16 nu, .int .u16 fl, .int .u8 ho, .int .u8 pr, .int .u32 sr, .int .u32 ds, .slice oa on oc, .slice pa pn pc]] w fun e w' => e = .returned (.bool (rightB fl on pn)) ∧ Below w.heap.size w w' := by
  have hB : ∀ o : Obj, Below w.heap.size w (w.alloc o) := fun o => (Below.refl w.heap.size w).alloc (Nat.le_refl _) o
  have HB := Lib.hid hB
  clear hB
  have step : ∀ x : Bool, x = rightB fl on pn → Ending.returned (.bool x) = .returned (.bool (rightB fl on pn)) := fun x h => by rw [h]
  have HS := Lib.hid step
  clear step
  by_cases h1 : fl = 0 ∨ fl = 16384
  · by_cases h2 : on ≤ 40
    · by_cases h3 : on % 4 = 0
      · have h3' : ((on : Int) % 4 != 0) = false := by simp; omega
        by_cases h4 : 20 + on + pn ≤ 65535
        · have h4' : decide ((pn : Int) ≤ 65515 - (on : Int)) = true := decide_eq_true (by omega)
          have HR := Lib.hid (show true = rightB fl on pn from (decide_eq_true (⟨h1, h2, h3, h4⟩ : (fl = 0 ∨ fl = 16384) ∧ on ≤ 40 ∧ on % 4 = 0 ∧ 20 + on + pn ≤ 65535)).symm)
          rcases h1 with rfl | rfl
          all_goals
            go_enter Tryd.func14, Tryd.ntmps14
            go_wp2
            go_ret
            exact ⟨HS.out _ HR.out, HB.out _⟩
        · have h4' : decide ((pn : Int) ≤ 65515 - (on : Int)) = false := decide_eq_false (by omega)
          have HR := Lib.hid (show false = rightB fl on pn from (decide_eq_false (fun h : (fl = 0 ∨ fl = 16384) ∧ on ≤ 40 ∧ on % 4 = 0 ∧ 20 + on + pn ≤ 65535 => h4 h.2.2.2)).symm)
          rcases h1 with rfl | rfl
          all_goals
            go_enter Tryd.func14, Tryd.ntmps14
            go_wp2
            go_ret
            exact ⟨HS.out _ HR.out, HB.out _⟩
      · have h3' : ((on : Int) % 4 != 0) = true := by simp; omega
        have HR := Lib.hid (show false = rightB fl on pn from (decide_eq_false (fun h : (fl = 0 ∨ fl = 16384) ∧ on ≤ 40 ∧ on % 4 = 0 ∧ 20 + on + pn ≤ 65535 => h3 h.2.2.1)).symm)
        rcases h1 with rfl | rfl
        all_goals
          go_enter Tryd.func14, Tryd.ntmps14
          go_wp2
          go_ret
          exact ⟨HS.out _ HR.out, HB.out _⟩
    · have HR := Lib.hid (show false = rightB fl on pn from (decide_eq_false (fun h : (fl = 0 ∨ fl = 16384) ∧ on ≤ 40 ∧ on % 4 = 0 ∧ 20 + on + pn ≤ 65535 => h2 h.2.1)).symm)
      rcases h1 with rfl | rfl
      all_goals
        go_enter Tryd.func14, Tryd.ntmps14
        go_wp2
        go_ret
        exact ⟨HS.out _ HR.out, HB.out _⟩
  · have HR := Lib.hid (show false = rightB fl on pn from (decide_eq_false (fun h : (fl = 0 ∨ fl = 16384) ∧ on ≤ 40 ∧ on % 4 = 0 ∧ 20 + on + pn ≤ 65535 => h1 h.1)).symm)
    have a1 : (fl != 0) = true := by simp; omega
    have a2 : (fl != 16384) = true := by simp; omega
    clear h1
    go_enter Tryd.func14, Tryd.ntmps14
    go_wp2
    go_ret
    exact ⟨HS.out _ HR.out, HB.out _⟩

set_option maxRecDepth 100000 in
set_option maxHeartbeats 1000000 in
theorem ipSize_any (sv nu fl ho pr sr ds : Int) (oa : Option Addr) (on oc : Nat) (pa : Option Addr) (pn pc : Nat) (w : World) (ho' : on ≤ 281474976710656) (hp' : pn ≤ 281474976710656) :
    Calls Tryd.prog 16 #[.agg #[.int .u8 sv, .int .u16 nu, .int .u16 fl, .int .u8 ho, .int .u8 pr, .int .u32 sr, .int .u32 ds, .slice oa on oc, .slice pa pn pc]] w fun e w' => e = .returned (.int .i64 (if rightB fl on pn = true then 20 + (on : Int) + pn else 0)) ∧ Below w.heap.size w w' := by
  by_cases hr : rightB fl on pn = true
  · rw [if_pos hr]
    have HR := Lib.hid hr
    clear hr
    go_enter Tryd.func16, Tryd.ntmps16
    go_wp2_with fail
    refine (ipRight_any _ _ _ _ _ _ _ _ _ _ _ _ _ _ ho' hp').mono ?_
    rintro e w1 ⟨rfl, m1⟩
    rw [HR.out]
    obtain ⟨hc, hf⟩ := bcell m1
    go_wp2
    go_ret
    exact ⟨rfl, below_alloc1 m1⟩
  · rw [if_neg hr]
    have HR := Lib.hid (show rightB fl on pn = false by simpa using hr)
    clear hr
    go_enter Tryd.func16, Tryd.ntmps16
    go_wp2_with fail
    refine (ipRight_any _ _ _ _ _ _ _ _ _ _ _ _ _ _ ho' hp').mono ?_
    rintro e w1 ⟨rfl, m1⟩
    rw [HR.out]
    obtain ⟨hc, hf⟩ := bcell m1
    go_wp2
    go_ret
    exact ⟨rfl, below_alloc1 m1⟩

/-- 'bytes.Clone'. -/
theorem clone_any (a : Option Addr) (n c : Nat) (zs : List Int) (hl : zs.length = n) (w : World) (hR : Row .u8 w.heap.size w a zs) (hnil : a = none → c = 0) (hn : n ≤ 1048576) :
    Calls Tryd.prog 36 #[.slice a n c] w (OwnRet zs w) := by
  have HL := Lib.hid hl
  clear hl
  obtain ⟨i0, hi, hz0, hz1, hz2⟩ := info_parts Tryd.infoU8
  have hq := Go.Lib.run_eql_slice_nil (P := Tryd.prog) w 24 5 a n c 0 0 Tryd.underlying24
  rcases a with _ | a
  · have hn0 : n = 0 := by
      rcases Nat.eq_zero_or_pos n with h | h
      · exact h
      · obtain ⟨b, off, h2, _⟩ := hR.2 (by rw [HL.out]; exact h)
        cases h2
    subst hn0
    obtain rfl := hnil rfl
    obtain rfl : zs = [] := List.eq_nil_of_length_eq_zero HL.out
    go_enter Tryd.func36, Tryd.ntmps36
    go_wp2
    go_ret
    exact ⟨none, 0, rfl, World.ownsRow_nil _ _ _ _, Below.refl _ _⟩
  · go_enter Tryd.func36, Tryd.ntmps36
    go_wp2_with (at_builtin; refine wpList_append_row _ rfl (.tmp 5) (.tmp 6) 24 rfl w.heap.size 5 i0 (.int .u8 0) 1 Tryd.underlying24 hi hz0 hz1 hz2 rfl _ 0 [] rfl (own_built w w.heap.size (Nat.le_refl _) 5 [] 0 rfl (by unfold maxLen; omega)) .u8 w.heap.size (some a) n c zs rfl HL.out (hR.below ((Below.refl _ _).alloc (Nat.le_refl _) _)) hnil (by unfold maxLen; omega) (by omega) (by simp) ?_; intro v1 w3 hown1 hgrow1; simp only [Nat.zero_add, List.nil_append] at hown1; have L1 := ((Below.refl w.heap.size w).alloc (Nat.le_refl _) (.cells #[] 5)).grown hgrow1 (by simp) (fun j hj => by cases hj; exact Nat.le_refl _))
    go_ret
    obtain ⟨A, C, rfl⟩ := own_slice hown1
    have hl := HL.out
    subst hl
    exact ⟨A, C, rfl, hown1, L1⟩

/-- A number of bytes, the highest one first. -/
def numOf (l : List Int) : Int := l.foldl (fun n v => n * 256 + v) 0
theorem numOf_snoc (l : List Int) (x : Int) : numOf (l ++ [x]) = numOf l * 256 + x := by simp [numOf]
theorem numOf_acc (l : List Int) (h : In 255 l) : ∀ acc : Int, 0 ≤ acc → 0 ≤ l.foldl (fun n v => n * 256 + v) acc ∧ l.foldl (fun n v => n * 256 + v) acc < (acc + 1) * (256 : Int) ^ l.length := by
  induction l with
  | nil => intro acc h0; simp; omega
  | cons x r ih =>
    intro acc h0
    have hx := h x (by simp)
    have := ih (fun y hy => h y (by simp [hy])) (acc * 256 + x) (by omega)
    refine ⟨this.1, Int.lt_of_lt_of_le this.2 ?_⟩
    rw [List.length_cons, Int.pow_succ, Int.mul_comm ((256 : Int) ^ r.length) 256, ← Int.mul_assoc]
    exact Int.mul_le_mul_of_nonneg_right (by omega) (Int.pow_nonneg (by decide))
theorem numOf_in (l : List Int) (h : In 255 l) : 0 ≤ numOf l ∧ numOf l < (256 : Int) ^ l.length := by
  have := numOf_acc l h 0 (by decide)
  simpa [numOf] using this
theorem or_num (a b : Int) (ha : 0 ≤ a) (ha' : a < 16777216) (hb : 0 ≤ b) (hb' : b ≤ 255) : bits .or .u32 (a * 256) b = a * 256 + b := by
  rw [u32_or (a * 256) b (by omega) (by omega) hb (by omega)]
  have e : ((a * 256).toNat ||| b.toNat : Nat) = a.toNat * 256 + b.toNat := by
    have := Nat.shiftLeft_add_eq_or_of_lt (i := 8) (b := b.toNat) (by omega) a.toNat
    rw [Nat.shiftLeft_eq] at this
    have e2 : (a * 256).toNat = a.toNat * 2 ^ 8 := by omega
    rw [e2]
    omega
  rw [e]
  omega

set_option maxRecDepth 100000 in
set_option maxHeartbeats 400000 in
theorem numberIn_any (a : Option Addr) (len cap B : Nat) (zs : List Int) (w : World) (h : Row .u8 B w a zs) (hl : zs.length = len) (hs : len ≤ 4) :
    Calls Tryd.prog 41 #[.slice a len cap] w fun e w' => e = .returned (.int .u32 (numOf zs)) ∧ w = w' := by
  have hin : In 255 zs := fun x hx => wf_u8.1 (h.1 x hx)
  have HL := Lib.hid hl
  clear hl
  go_enter Tryd.func41, Tryd.ntmps41
  go_wp2
  go_loop [3, 8] (fun t i => ∃ k : Nat, k ≤ len ∧ i = .int .i64 k ∧ t = .int .u32 (numOf (zs.take k))) (fun _ i => len - (intOf i).toNat)
  case atStart => exact ⟨0, Nat.zero_le _, rfl, rfl⟩
  case round =>
    obtain ⟨k, hk, rfl, rfl⟩ := hrel
    by_cases hlt : k < len
    · obtain ⟨b, off, rfl, _, hc⟩ := h.2 (by rw [HL.out]; omega)
      have hcx := hc k (by rw [HL.out]; omega)
      have hx := getD_in hin (by decide) k
      have hb := numOf_in (zs.take k) (fun x hx => hin x (List.mem_of_mem_take hx))
      have hp : numOf (zs.take k) < 16777216 := by
        have e : (zs.take k).length = k := by simp; rw [HL.out]; omega
        rw [e] at hb
        have : (256 : Int) ^ k ≤ 256 ^ 3 := by
          obtain rfl | rfl | rfl | rfl : k = 0 ∨ k = 1 ∨ k = 2 ∨ k = 3 := by omega
          all_goals decide
        omega
      have HT := Lib.hid (show numOf (zs.take (k + 1)) = numOf (zs.take k) * 256 + zs[k]?.getD 0 by
        have hk' : k < zs.length := by rw [HL.out]; exact hlt
        rw [List.take_add_one, show zs[k]?.toList = [zs[k]?.getD 0] by simp [hk'], numOf_snoc])
      have hO := or_num (numOf (zs.take k)) (zs[k]?.getD 0) hb.1 hp hx.1 hx.2
      have h0 := hb.1
      clear hc h hin hb
      go_wp2
      go_round
      case rel => exact ⟨k + 1, by omega, by go_num, by rw [HT.out]⟩
      case measure => simp [intOf]; omega
    · obtain rfl : k = len := by omega
      have he : zs.take k = zs := List.take_of_length_le (by rw [HL.out]; exact Nat.le_refl _)
      have HE := Lib.hid he
      clear he
      rw [HE.out]
      go_wp2
      go_ret
      exact ⟨rfl, rfl⟩

/-- The bytes of a number, the highest one first. -/
def be (width : Nat) (n : Int) : List Int := upto (fun i => n / 256 ^ (width - 1 - i) % 256) width
/-- The call hands back what it was handed, grown; what lay below base lies as it lay. -/
def AppRet (base : Nat) (ts : List TypeId) (m : Nat) (zs : List Int) (w : World) (e : Ending) (w' : World) : Prop :=
  ∃ v, e = .returned v ∧ w'.ownsRow base 5 1 v m (zs.map (Value.int .u8)) ∧ KeepA base ts w w'

set_option maxRecDepth 100000 in
set_option maxHeartbeats 4000000 in
theorem appendNumber_any (base : Nat) (ts : List TypeId) (hts : 5 ∉ ts) (v : Value) (m width : Nat) (zs : List Int) (hw : width = 1 ∨ width = 2 ∨ width = 4) (hm : m ≤ 1000000) (n : Int) (hn : 0 ≤ n) (hn' : n ≤ 4294967295) (w : World) (hown : w.ownsRow base 5 1 v m (zs.map (Value.int .u8))) (hb : base ≤ w.heap.size) :
    Calls Tryd.prog 25 #[v, .int .i64 width, .int .u32 n] w (AppRet base ts (m + width) (zs ++ be width n) w) := by
  obtain ⟨i0, hi, hz0, hz1, hz2⟩ := info_parts Tryd.infoU8
  have HO := Lib.hid hown
  clear hown
  rcases hw with rfl | rfl | rfl
  · show Calls Tryd.prog 25 #[v, .int .i64 1, .int .u32 n] w _
    go_enter Tryd.func25, Tryd.ntmps25
    go_wp2
    go_loopw [0, 9] (fun s i wr => ∃ k : Nat, k ≤ 1 ∧ i = .int .i64 k ∧ wr.ownsRow base 5 1 s (m + k) ((zs ++ upto (fun i => n / 256 ^ (1 - 1 - i) % 256) k).map (Value.int .u8)) ∧ KeepA base ts w wr)
      (fun _ i _ => 1 - (intOf i).toNat)
    case atStart => exact ⟨0, by omega, rfl, by simpa [upto] using HO.out, KeepA.refl _ _ _⟩
    case round =>
      obtain ⟨k, hk, rfl, hown, hnx⟩ := hrel
      have HW := Lib.hid hown
      have HX := Lib.hid hnx
      clear hown hnx
      obtain rfl | rfl : k = 0 ∨ k = 1 := by omega
      · go_wp2_with (at_builtin; refine wpList_append_own _ rfl _ _ 24 rfl base 5 i0 (.int .u8 0) 1 1 Tryd.underlying24 hi hz0 hz1 hz2 rfl (by decide) _ _ _ rfl (HW.out.alloc _) ⟨wr.heap.size, 0, none⟩ 1 1 [_] rfl rfl (cell_one_new _ _ _) (by simp [Value.oneCell']) (by unfold maxLen; omega) (by omega) (by have := HX.out.1.1.size; simp; omega) ?_; intro v' w1 hown' hgrow _)
        have hB1 := keepA_append HX.out (Nat.le_trans hb HX.out.1.1.size) HW.out hts hgrow
        go_roundw
        case rel => exact ⟨1, by omega, rfl, by simpa [upto, List.range_succ, Nat.add_assoc] using hown', hB1⟩
        case measure => simp [intOf]
      · go_wp2
        go_ret
        exact ⟨_, rfl, HW.out, HX.out⟩
  · show Calls Tryd.prog 25 #[v, .int .i64 2, .int .u32 n] w _
    go_enter Tryd.func25, Tryd.ntmps25
    go_wp2
    go_loopw [0, 9] (fun s i wr => ∃ k : Nat, k ≤ 2 ∧ i = .int .i64 k ∧ wr.ownsRow base 5 1 s (m + k) ((zs ++ upto (fun i => n / 256 ^ (2 - 1 - i) % 256) k).map (Value.int .u8)) ∧ KeepA base ts w wr)
      (fun _ i _ => 2 - (intOf i).toNat)
    case atStart => exact ⟨0, by omega, rfl, by simpa [upto] using HO.out, KeepA.refl _ _ _⟩
    case round =>
      obtain ⟨k, hk, rfl, hown, hnx⟩ := hrel
      have HW := Lib.hid hown
      have HX := Lib.hid hnx
      clear hown hnx
      obtain rfl | rfl | rfl : k = 0 ∨ k = 1 ∨ k = 2 := by omega
      · go_wp2_with (at_builtin; refine wpList_append_own _ rfl _ _ 24 rfl base 5 i0 (.int .u8 0) 1 1 Tryd.underlying24 hi hz0 hz1 hz2 rfl (by decide) _ _ _ rfl (HW.out.alloc _) ⟨wr.heap.size, 0, none⟩ 1 1 [_] rfl rfl (cell_one_new _ _ _) (by simp [Value.oneCell']) (by unfold maxLen; omega) (by omega) (by have := HX.out.1.1.size; simp; omega) ?_; intro v' w1 hown' hgrow _)
        have hB1 := keepA_append HX.out (Nat.le_trans hb HX.out.1.1.size) HW.out hts hgrow
        go_roundw
        case rel => exact ⟨1, by omega, rfl, by simpa [upto, List.range_succ, Nat.add_assoc] using hown', hB1⟩
        case measure => simp [intOf]
      · go_wp2_with (at_builtin; refine wpList_append_own _ rfl _ _ 24 rfl base 5 i0 (.int .u8 0) 1 1 Tryd.underlying24 hi hz0 hz1 hz2 rfl (by decide) _ _ _ rfl (HW.out.alloc _) ⟨wr.heap.size, 0, none⟩ 1 1 [_] rfl rfl (cell_one_new _ _ _) (by simp [Value.oneCell']) (by unfold maxLen; omega) (by omega) (by have := HX.out.1.1.size; simp; omega) ?_; intro v' w1 hown' hgrow _)
        have hB1 := keepA_append HX.out (Nat.le_trans hb HX.out.1.1.size) HW.out hts hgrow
        go_roundw
        case rel => exact ⟨2, by omega, rfl, by simpa [upto, List.range_succ, Nat.add_assoc] using hown', hB1⟩
        case measure => simp [intOf]
      · go_wp2
        go_ret
        exact ⟨_, rfl, HW.out, HX.out⟩
  · show Calls Tryd.prog 25 #[v, .int .i64 4, .int .u32 n] w _
    go_enter Tryd.func25, Tryd.ntmps25
    go_wp2
    go_loopw [0, 9] (fun s i wr => ∃ k : Nat, k ≤ 4 ∧ i = .int .i64 k ∧ wr.ownsRow base 5 1 s (m + k) ((zs ++ upto (fun i => n / 256 ^ (4 - 1 - i) % 256) k).map (Value.int .u8)) ∧ KeepA base ts w wr)
      (fun _ i _ => 4 - (intOf i).toNat)
    case atStart => exact ⟨0, by omega, rfl, by simpa [upto] using HO.out, KeepA.refl _ _ _⟩
    case round =>
      obtain ⟨k, hk, rfl, hown, hnx⟩ := hrel
      have HW := Lib.hid hown
      have HX := Lib.hid hnx
      clear hown hnx
      obtain rfl | rfl | rfl | rfl | rfl : k = 0 ∨ k = 1 ∨ k = 2 ∨ k = 3 ∨ k = 4 := by omega
      · go_wp2_with (at_builtin; refine wpList_append_own _ rfl _ _ 24 rfl base 5 i0 (.int .u8 0) 1 1 Tryd.underlying24 hi hz0 hz1 hz2 rfl (by decide) _ _ _ rfl (HW.out.alloc _) ⟨wr.heap.size, 0, none⟩ 1 1 [_] rfl rfl (cell_one_new _ _ _) (by simp [Value.oneCell']) (by unfold maxLen; omega) (by omega) (by have := HX.out.1.1.size; simp; omega) ?_; intro v' w1 hown' hgrow _)
        have hB1 := keepA_append HX.out (Nat.le_trans hb HX.out.1.1.size) HW.out hts hgrow
        go_roundw
        case rel => exact ⟨1, by omega, rfl, by simpa [upto, List.range_succ, Nat.add_assoc, show n / 16777216 % 256 = n / 16777216 by omega] using hown', hB1⟩
        case measure => simp [intOf]
      · go_wp2_with (at_builtin; refine wpList_append_own _ rfl _ _ 24 rfl base 5 i0 (.int .u8 0) 1 1 Tryd.underlying24 hi hz0 hz1 hz2 rfl (by decide) _ _ _ rfl (HW.out.alloc _) ⟨wr.heap.size, 0, none⟩ 1 1 [_] rfl rfl (cell_one_new _ _ _) (by simp [Value.oneCell']) (by unfold maxLen; omega) (by omega) (by have := HX.out.1.1.size; simp; omega) ?_; intro v' w1 hown' hgrow _)
        have hB1 := keepA_append HX.out (Nat.le_trans hb HX.out.1.1.size) HW.out hts hgrow
        go_roundw
        case rel => exact ⟨2, by omega, rfl, by simpa [upto, List.range_succ, Nat.add_assoc] using hown', hB1⟩
        case measure => simp [intOf]
      · go_wp2_with (at_builtin; refine wpList_append_own _ rfl _ _ 24 rfl base 5 i0 (.int .u8 0) 1 1 Tryd.underlying24 hi hz0 hz1 hz2 rfl (by decide) _ _ _ rfl (HW.out.alloc _) ⟨wr.heap.size, 0, none⟩ 1 1 [_] rfl rfl (cell_one_new _ _ _) (by simp [Value.oneCell']) (by unfold maxLen; omega) (by omega) (by have := HX.out.1.1.size; simp; omega) ?_; intro v' w1 hown' hgrow _)
        have hB1 := keepA_append HX.out (Nat.le_trans hb HX.out.1.1.size) HW.out hts hgrow
        go_roundw
        case rel => exact ⟨3, by omega, rfl, by simpa [upto, List.range_succ, Nat.add_assoc] using hown', hB1⟩
        case measure => simp [intOf]
      · go_wp2_with (at_builtin; refine wpList_append_own _ rfl _ _ 24 rfl base 5 i0 (.int .u8 0) 1 1 Tryd.underlying24 hi hz0 hz1 hz2 rfl (by decide) _ _ _ rfl (HW.out.alloc _) ⟨wr.heap.size, 0, none⟩ 1 1 [_] rfl rfl (cell_one_new _ _ _) (by simp [Value.oneCell']) (by unfold maxLen; omega) (by omega) (by have := HX.out.1.1.size; simp; omega) ?_; intro v' w1 hown' hgrow _)
        have hB1 := keepA_append HX.out (Nat.le_trans hb HX.out.1.1.size) HW.out hts hgrow
        go_roundw
        case rel => exact ⟨4, by omega, rfl, by simpa [upto, List.range_succ, Nat.add_assoc] using hown', hB1⟩
        case measure => simp [intOf]
      · go_wp2
        go_ret
        exact ⟨_, rfl, HW.out, HX.out⟩

set_option maxRecDepth 100000 in
theorem layCheck_any (g n cap base : Nat) (zs : List Int) (w : World) (c : Int) (hc : 0 ≤ c ∧ c ≤ 65535) (hn : 12 ≤ n) (hm : n ≤ 1048576) (h : w.ownsRow base 5 1 (.slice (some ⟨g, 0, none⟩) n cap) n (zs.map (Value.int .u8))) :
    Calls Tryd.prog 26 #[.slice (some ⟨g, 0, none⟩) n cap, .int .u16 c] w fun e w' => (∃ v, e = .returned v) ∧ w' = (w.setCell ⟨g, 10, none⟩ (.int .u8 (c / 256))).setCell ⟨g, 11, none⟩ (.int .u8 (c % 256)) := by
  have h1 := own_store h 10 (c / 256)
  have e1 := own_cell h 10 (by omega)
  have f1 := h.frozenAt 10
  have e2 := own_cell h1 11 (by omega)
  have f2 := h1.frozenAt 11
  go_enter Tryd.func26, Tryd.ntmps26
  go_wp2
  go_end0
  exact ⟨⟨_, rfl⟩, rfl⟩
end Go.Proofs.YtjofijigfkkidaaDoor
