/- What 'handfast/ip.numbersOf' and the closure that it hands back do: a head's ten numbers, each with its width. -/
import Derived.Test.YtjofijigfkkidaaDoorIpS
import Derived.Test.YtjofijigfkkidaaDoorIpM
import Derived.Deep.RegionHeld3
import Derived.ControlIn
namespace Go.Proofs.YtjofijigfkkidaaDoor
open Go.RowKit Go.Shelf
open SumM

attribute [local go_sem] Oper.semAt_some

theorem rightB_le {fl : Int} {on pn : Nat} (h : rightB fl on pn = true) : on ≤ 40 ∧ on % 4 = 0 ∧ 20 + on + pn ≤ 65535 := (of_decide_eq_true h).2
theorem ipSize_yes (sv nu fl ho pr sr ds : Int) (oa : Option Addr) (on oc : Nat) (pa : Option Addr) (pn pc : Nat) (w : World) (h : rightB fl on pn = true) :
    Calls Tryd.prog 16 #[.agg #[.int .u8 sv, .int .u16 nu, .int .u16 fl, .int .u8 ho, .int .u8 pr, .int .u32 sr, .int .u32 ds, .slice oa on oc, .slice pa pn pc]] w fun e w' => e = .returned (.int .i64 (20 + (on : Int) + pn)) ∧ Below w.heap.size w w' := by
  have hsz := rightB_le h
  have := ipSize_any sv nu fl ho pr sr ds oa on oc pa pn pc w (by omega) (by omega)
  rwa [if_pos h] at this
theorem below_drew {W w1 : World} (m : Below W.drew.heap.size W.drew w1) : Below W.heap.size W w1 := ⟨m.os, m.tape, m.output, m.size, m.block⟩
theorem below_drew_alloc {W w1 : World} {o : Obj} (m : Below (W.drew.alloc o).heap.size (W.drew.alloc o) w1) : Below W.heap.size W w1 := below_drew (below_alloc1 m)
theorem cell_al {W w1 : World} (LL : Below W.heap.size W w1) {b j : Nat} {v : Value} (hlt : b < W.heap.size) (h : w1.cell? ⟨b, j, none⟩ = some v) {o : Obj} : (w1.alloc o).cell? ⟨b, j, none⟩ = some v :=
  (((Below.refl w1.heap.size w1).alloc (Nat.le_refl _) o).cell (p := ⟨b, j, none⟩) (Nat.lt_of_lt_of_le hlt LL.size)).trans h
/-- The widths of a head's ten numbers. -/
def widthAt (i : Nat) : Nat := [1, 1, 2, 2, 2, 1, 1, 2, 4, 4][i]?.getD 1
/-- The package's variable 'widths' holds what its text says. -/
def Wid (w : World) : Prop := ∀ i, i < 10 → w.cell? ⟨0, i, none⟩ = some (.int .i64 (widthAt i))
/-- A head's ten numbers. -/
def numAt (sv nu fl ho pr sr ds : Int) (on pn i : Nat) : Int :=
  [64 + (20 + (on : Int)) / 4, sv, 20 + (on : Int) + pn, nu, fl, ho, pr, 0, sr, ds][i]?.getD 0

/-- The array of a head's numbers lies in a block of its own; what lay lies as it lay. -/
def ArrAt (W w' : World) (Ba : Nat) (sv nu fl ho pr sr ds : Int) (on pn : Nat) : Prop :=
  (∃ cur : Array Value, w'.heap[Ba]? = some (.cells cur 50 (0, 0))) ∧ (∀ i, i < 10 → w'.cell? ⟨Ba, i, none⟩ = some (.int .u32 (numAt sv nu fl ho pr sr ds on pn i))) ∧ Below W.heap.size W w'

/-- A width and a number. -/
abbrev WN := { x : Nat × Int // 0 ≤ x.2 ∧ x.2 ≤ 4294967295 ∧ (x.1 = 1 ∨ x.1 = 2 ∨ x.1 = 4) }

theorem Tryd.info50 : (Tryd.prog.info? 50).map (·.size) = some 10 := by kernel_rfl

theorem widthAt_is (i : Nat) : widthAt i = 1 ∨ widthAt i = 2 ∨ widthAt i = 4 := by
  rcases Nat.lt_or_ge i 10 with h | h
  · obtain rfl | rfl | rfl | rfl | rfl | rfl | rfl | rfl | rfl | rfl : i = 0 ∨ i = 1 ∨ i = 2 ∨ i = 3 ∨ i = 4 ∨ i = 5 ∨ i = 6 ∨ i = 7 ∨ i = 8 ∨ i = 9 := by omega
    all_goals decide
  · left
    simp [widthAt, List.getElem?_eq_none (show [1, 1, 2, 2, 2, 1, 1, 2, 4, 4].length ≤ i from h)]
theorem numAt_in {sv nu fl ho pr sr ds : Int} {on pn : Nat} (hsv : 0 ≤ sv ∧ sv ≤ 255) (hnu : 0 ≤ nu ∧ nu ≤ 65535) (hfl : 0 ≤ fl ∧ fl ≤ 65535) (hho : 0 ≤ ho ∧ ho ≤ 255) (hpr : 0 ≤ pr ∧ pr ≤ 255) (hsr : 0 ≤ sr ∧ sr ≤ 4294967295) (hds : 0 ≤ ds ∧ ds ≤ 4294967295) (hsz : on ≤ 40 ∧ on % 4 = 0 ∧ 20 + on + pn ≤ 65535) (i : Nat) : 0 ≤ numAt sv nu fl ho pr sr ds on pn i ∧ numAt sv nu fl ho pr sr ds on pn i ≤ 4294967295 := by
  rcases Nat.lt_or_ge i 10 with h | h
  · obtain rfl | rfl | rfl | rfl | rfl | rfl | rfl | rfl | rfl | rfl : i = 0 ∨ i = 1 ∨ i = 2 ∨ i = 3 ∨ i = 4 ∨ i = 5 ∨ i = 6 ∨ i = 7 ∨ i = 8 ∨ i = 9 := by omega
    all_goals (simp [numAt]; try omega)
  · have : numAt sv nu fl ho pr sr ds on pn i = 0 := by simp [numAt, List.getElem?_eq_none (show [64 + (20 + (on : Int)) / 4, sv, 20 + (on : Int) + pn, nu, fl, ho, pr, 0, sr, ds].length ≤ i from h)]
    omega
/-- The i-th width and number. -/
def wnAt (f : Nat → Int) (hf : ∀ i, 0 ≤ f i ∧ f i ≤ 4294967295) (i : Nat) : WN := ⟨(widthAt i, f i), (hf i).1, (hf i).2, widthAt_is i⟩

theorem run_widths (k : Nat) (hk : k < 10) (w : World) : (Instr.index 57 (.agg #[.int .i64 1, .int .i64 1, .int .i64 2, .int .i64 2, .int .i64 2, .int .i64 1, .int .i64 1, .int .i64 2, .int .i64 4, .int .i64 4]) (.int .i64 k)).run Tryd.prog w = .ok (.int .i64 (widthAt k)) w := by
  obtain rfl | rfl | rfl | rfl | rfl | rfl | rfl | rfl | rfl | rfl : k = 0 ∨ k = 1 ∨ k = 2 ∨ k = 3 ∨ k = 4 ∨ k = 5 ∨ k = 6 ∨ k = 7 ∨ k = 8 ∨ k = 9 := by omega
  all_goals (go_simp; first | rfl | done)

theorem arr_vals {sv nu fl ho pr sr ds : Int} {on pn : Nat} (hsv : 0 ≤ sv ∧ sv ≤ 255) (hnu : 0 ≤ nu ∧ nu ≤ 65535) (hfl : 0 ≤ fl ∧ fl ≤ 65535) (hho : 0 ≤ ho ∧ ho ≤ 255) (hpr : 0 ≤ pr ∧ pr ≤ 255) (hsz : on ≤ 40 ∧ on % 4 = 0 ∧ 20 + on + pn ≤ 65535) :
    ([.int .u32 (IntKind.u32.wrap (IntKind.i64.wrap (64 + IntKind.i64.wrap ((IntKind.i64.wrap (20 + (on : Int))).tdiv 4)))), .int .u32 (IntKind.u32.wrap sv), .int .u32 (IntKind.u32.wrap (20 + (on : Int) + (pn : Int))), .int .u32 (IntKind.u32.wrap nu), .int .u32 (IntKind.u32.wrap fl), .int .u32 (IntKind.u32.wrap ho), .int .u32 (IntKind.u32.wrap pr), .int .u32 0, .int .u32 sr, .int .u32 ds] : List Value)
      = (List.range 10).map (fun i => .int .u32 (numAt sv nu fl ho pr sr ds on pn i)) := by
  have e1 : IntKind.i64.wrap (20 + (on : Int)) = 20 + on := IntWalk.i64_in _ (by omega)
  have e2 : (20 + (on : Int)).tdiv 4 = (20 + on) / 4 := Int.tdiv_eq_ediv_of_nonneg (by omega)
  have e3 : IntKind.i64.wrap ((20 + (on : Int)) / 4) = (20 + on) / 4 := IntWalk.i64_in _ (by omega)
  have e4 : IntKind.i64.wrap (64 + (20 + (on : Int)) / 4) = 64 + (20 + on) / 4 := IntWalk.i64_in _ (by omega)
  have e5 : ∀ x : Int, 0 ≤ x → x ≤ 4294967295 → IntKind.u32.wrap x = x := fun x h h' => IntWalk.u32_in _ (by omega)
  rw [e1, e2, e3, e4, e5 _ (by omega) (by omega), e5 sv (by omega) (by omega), e5 _ (by omega) (by omega), e5 nu (by omega) (by omega), e5 fl (by omega) (by omega), e5 ho (by omega) (by omega), e5 pr (by omega) (by omega)]
  rfl
theorem arr_mk {W w2 : World} {Ba : Nat} {cur : Array Value} (hH : w2.heap[Ba]? = some (.cells cur 50 (0, 0))) (h10 : cur.size = 10) (hb : Below W.heap.size W w2) (hBa : W.heap.size ≤ Ba) (sv nu fl ho pr sr ds : Int) (on pn : Nat) (vs : List Value)
    (hv : vs = (List.range 10).map (fun i => .int .u32 (numAt sv nu fl ho pr sr ds on pn i))) : ArrAt W (w2.setCells Ba 0 vs) Ba sv nu fl ho pr sr ds on pn := by
  have hl : vs.length = 10 := by rw [hv]; simp
  obtain ⟨cur', h1, h2⟩ := row_setCells hH vs (by omega)
  refine ⟨⟨cur', h1⟩, fun i hi => ?_, below_setCells Ba hBa vs 0 _ _ hb⟩
  rw [h2 i (by omega)]
  subst hv
  simp
theorem new_keep' (W w1 : World) (o : Obj) (m : Below (W.alloc o).drew.heap.size (W.alloc o).drew w1) : w1.heap[W.heap.size]? = some o :=
  (m.block W.heap.size (by simp)).trans (heap_alloc_new W o)
theorem new_keep (W w1 : World) (o : Obj) (m : Below (W.drew.alloc o).heap.size (W.drew.alloc o) w1) : w1.heap[W.heap.size]? = some o :=
  (m.block W.heap.size (by simp)).trans (heap_alloc_new W.drew o)

set_option maxRecDepth 100000 in
set_option maxHeartbeats 8000000 in
theorem nums_in (sv nu fl ho pr sr ds : Int) (oa : Option Addr) (on oc : Nat) (pa : Option Addr) (pn pc : Nat) (n : Nat) (hn : 1 ≤ n) (l Bs n₀ : Nat) (hsv : 0 ≤ sv ∧ sv ≤ 255) (hnu : 0 ≤ nu ∧ nu ≤ 65535) (hfl : 0 ≤ fl ∧ fl ≤ 65535) (hho : 0 ≤ ho ∧ ho ≤ 255) (hpr : 0 ≤ pr ∧ pr ≤ 255) (hsr : 0 ≤ sr ∧ sr ≤ 4294967295) (hds : 0 ≤ ds ∧ ds ≤ 4294967295) (hrt : rightB fl on pn = true)
    (J Jx : List WN → World → Prop) (W : World) (hJ : AbidesFrom W.heap.size J) (hn₀ : n₀ ≤ W.heap.size) (hg₀ : 0 < n₀)
    (hY : ∀ pre x W, J pre W → pre.length < 10 → YieldAt Fence.wide (n - 1) Tryd.prog l #[.int .i64 x.1.1, .int .u32 x.1.2] W fun e W' =>
      (e = .returned (.bool true) ∧ J (pre ++ [x]) W' ∧ KeepT n₀ [50, 26] W W') ∨ (e = .returned (.bool false) ∧ Jx (pre ++ [x]) W'))
    (hB : W.heap[Bs]? = some (.cells #[.int .u8 sv, .int .u16 nu, .int .u16 fl, .int .u8 ho, .int .u8 pr, .int .u32 sr, .int .u32 ds, .slice oa on oc, .slice pa pn pc] 26 (0, 0))) (hW : Wid W) (h0 : J [] W) :
    CallsIn Fence.wide n Tryd.prog 38 #[.func (.yield l) #[] #[], .pointer (some ⟨Bs, 0, none⟩)] W fun e W' => (∃ v, e = .returned v) ∧
      ((∃ ys : List WN, ys.map (·.1) = (List.range 10).map (fun i => (widthAt i, numAt sv nu fl ho pr sr ds on pn i)) ∧ J ys W') ∨ (∃ pre, pre.length ≤ 10 ∧ Jx pre W')) := by
  refine callsIn_of_wp Tryd.func38 rfl trivial ?_ rfl
  simp only [Tryd.ntmps38, List.size_toArray, List.length_cons, List.length_nil, Nat.reduceAdd, Nat.reduceSub, Array.replicate_succ, Array.replicate_zero, List.push_toArray, List.append_toArray, List.nil_append, List.cons_append]
  have c0 : W.cell? ⟨Bs, 0, none⟩ = some (.int .u8 sv) := by rw [cell_of_row _ _ _ _ _ _ hB]; rfl
  have c1 : W.cell? ⟨Bs, 1, none⟩ = some (.int .u16 nu) := by rw [cell_of_row _ _ _ _ _ _ hB]; rfl
  have c2 : W.cell? ⟨Bs, 2, none⟩ = some (.int .u16 fl) := by rw [cell_of_row _ _ _ _ _ _ hB]; rfl
  have c3 : W.cell? ⟨Bs, 3, none⟩ = some (.int .u8 ho) := by rw [cell_of_row _ _ _ _ _ _ hB]; rfl
  have c4 : W.cell? ⟨Bs, 4, none⟩ = some (.int .u8 pr) := by rw [cell_of_row _ _ _ _ _ _ hB]; rfl
  have c5 : W.cell? ⟨Bs, 5, none⟩ = some (.int .u32 sr) := by rw [cell_of_row _ _ _ _ _ _ hB]; rfl
  have c6 : W.cell? ⟨Bs, 6, none⟩ = some (.int .u32 ds) := by rw [cell_of_row _ _ _ _ _ _ hB]; rfl
  have c7 : W.cell? ⟨Bs, 7, none⟩ = some (.slice oa on oc) := by rw [cell_of_row _ _ _ _ _ _ hB]; rfl
  have c8 : W.cell? ⟨Bs, 8, none⟩ = some (.slice pa pn pc) := by rw [cell_of_row _ _ _ _ _ _ hB]; rfl
  have hsz := rightB_le hrt
  have HR := Lib.hid hrt
  clear hrt
  have hlt : Bs < W.heap.size := (Array.getElem?_eq_some_iff.1 hB).1
  have HY := Lib.hid hY
  have HJ := Lib.hid hJ
  have HB := Lib.hid hB
  clear hY hJ hB
  gi_wp2
  refine Go.wpIn_mono (Q := fun e a' w' => e = .normal ∧ ∃ (Ba : Nat) (x6 x7 x8 x9 x10 x11 x12 x13 x14 x15 x16 x17 x18 x19 x20 x21 x22 x23 x24 x25 x26 x27 x28 x29 x30 x31 x32 x33 x34 x35 : Value), a' = { tmps := #[.func (.yield l) #[] #[], .pointer (some ⟨Bs, 0, none⟩), undef, .pointer (some ⟨Ba, 0, none⟩), undef, undef, x6, x7, x8, x9, x10, x11, x12, x13, x14, x15, x16, x17, x18, x19, x20, x21, x22, x23, x24, x25, x26, x27, x28, x29, x30, x31, x32, x33, x34, x35, undef, undef, undef, undef, undef, undef, undef, undef, undef, undef, undef, undef, undef], defers := [] } ∧ ArrAt W w' Ba sv nu fl ho pr sr ds on pn) ?reg ?post
  case reg =>
    rw [wpIn_wide]
    have hOne : ∀ v ∈ ([.int .u32 (IntKind.u32.wrap (IntKind.i64.wrap (64 + IntKind.i64.wrap ((IntKind.i64.wrap (20 + (on : Int))).tdiv 4)))), .int .u32 (IntKind.u32.wrap sv), .int .u32 (IntKind.u32.wrap (20 + (on : Int) + (pn : Int))), .int .u32 (IntKind.u32.wrap nu), .int .u32 (IntKind.u32.wrap fl), .int .u32 (IntKind.u32.wrap ho), .int .u32 (IntKind.u32.wrap pr), .int .u32 0, .int .u32 sr, .int .u32 ds] : List Value), v.oneCell' = true := by simp [Value.oneCell']
    have hI := Tryd.info50
    have HV0 := Lib.hid (arr_vals (sr := sr) (ds := ds) hsv hnu hfl hho hpr hsz)
    go_region_held3 (fun w' => w'.cell? ⟨Bs, 0, none⟩ = some (.int .u8 sv) ∧ w'.cell? ⟨Bs, 1, none⟩ = some (.int .u16 nu) ∧ w'.cell? ⟨Bs, 2, none⟩ = some (.int .u16 fl) ∧ w'.cell? ⟨Bs, 3, none⟩ = some (.int .u8 ho) ∧ w'.cell? ⟨Bs, 4, none⟩ = some (.int .u8 pr) ∧ w'.cell? ⟨Bs, 5, none⟩ = some (.int .u32 sr) ∧ w'.cell? ⟨Bs, 6, none⟩ = some (.int .u32 ds) ∧ w'.cell? ⟨Bs, 7, none⟩ = some (.slice oa on oc) ∧ w'.cell? ⟨Bs, 8, none⟩ = some (.slice pa pn pc)) (first | with_reducible exact ⟨cell_sc hneA (cell_al LL hlt d0), cell_sc hneA (cell_al LL hlt d1), cell_sc hneA (cell_al LL hlt d2), cell_sc hneA (cell_al LL hlt d3), cell_sc hneA (cell_al LL hlt d4), cell_sc hneA (cell_al LL hlt d5), cell_sc hneA (cell_al LL hlt d6), cell_sc hneA (cell_al LL hlt d7), cell_sc hneA (cell_al LL hlt d8)⟩ | with_reducible exact ⟨cell_sc hneB d0, cell_sc hneB d1, cell_sc hneB d2, cell_sc hneB d3, cell_sc hneB d4, cell_sc hneB d5, cell_sc hneB d6, cell_sc hneB d7, cell_sc hneB d8⟩ | exact ⟨d0, d1, d2, d3, d4, d5, d6, d7, d8⟩ | exact ⟨c0, c1, c2, c3, c4, c5, c6, c7, c8⟩ | exact ⟨cell_al LL hlt d0, cell_al LL hlt d1, cell_al LL hlt d2, cell_al LL hlt d3, cell_al LL hlt d4, cell_al LL hlt d5, cell_al LL hlt d6, cell_al LL hlt d7, cell_al LL hlt d8⟩ | exact ⟨cell_al (Below.refl _ _) hlt c0, cell_al (Below.refl _ _) hlt c1, cell_al (Below.refl _ _) hlt c2, cell_al (Below.refl _ _) hlt c3, cell_al (Below.refl _ _) hlt c4, cell_al (Below.refl _ _) hlt c5, cell_al (Below.refl _ _) hlt c6, cell_al (Below.refl _ _) hlt c7, cell_al (Below.refl _ _) hlt c8⟩)
      (first
        | (go_at_call 16; refine (ipSize_yes _ _ _ _ _ _ _ _ _ _ _ _ _ _ HR.out).mono ?_; rintro e w1 ⟨rfl, m1⟩; have LL : Below W.heap.size W w1 := (by first | exact below_drew m1 | exact below_drew_alloc m1); have d0 := (LL.cell (p := ⟨Bs, 0, none⟩) hlt).trans c0; have d1 := (LL.cell (p := ⟨Bs, 1, none⟩) hlt).trans c1; have d2 := (LL.cell (p := ⟨Bs, 2, none⟩) hlt).trans c2; have d3 := (LL.cell (p := ⟨Bs, 3, none⟩) hlt).trans c3; have d4 := (LL.cell (p := ⟨Bs, 4, none⟩) hlt).trans c4; have d5 := (LL.cell (p := ⟨Bs, 5, none⟩) hlt).trans c5; have d6 := (LL.cell (p := ⟨Bs, 6, none⟩) hlt).trans c6; have d7 := (LL.cell (p := ⟨Bs, 7, none⟩) hlt).trans c7; have d8 := (LL.cell (p := ⟨Bs, 8, none⟩) hlt).trans c8; have hneA : Bs ≠ w1.heap.size := Nat.ne_of_lt (Nat.lt_of_lt_of_le hlt LL.size); have hneB : Bs ≠ W.heap.size := Nat.ne_of_lt hlt; have hTA := there_row (heap_alloc_new w1 (.cells #[.int .u32 0, .int .u32 0, .int .u32 0, .int .u32 0, .int .u32 0, .int .u32 0, .int .u32 0, .int .u32 0, .int .u32 0, .int .u32 0] 50)) 10 (Nat.le_refl _); (first | with_reducible (have hHB := new_keep W _ _ m1) | with_reducible (have hHB := new_keep' W _ _ m1) | (have hHB : True := trivial)); (first | with_reducible (have hTB := there_row hHB 10 (Nat.le_refl _)) | skip)))
    all_goals
      refine ⟨rfl, _, _, _, _, _, _, _, _, _, _, _, _, _, _, _, _, _, _, _, _, _, _, _, _, _, _, _, _, _, _, _, rfl, ?_⟩
      first
        | with_reducible exact arr_mk (heap_alloc_new w1 _) rfl (LL.alloc LL.size _) LL.size sv nu fl ho pr sr ds on pn _ HV0.out
        | with_reducible exact arr_mk hHB rfl LL (Nat.le_refl _) sv nu fl ho pr sr ds on pn _ HV0.out
  case post =>
    rintro e a' w' ⟨rfl, Ba, x6, x7, x8, x9, x10, x11, x12, x13, x14, x15, x16, x17, x18, x19, x20, x21, x22, x23, x24, x25, x26, x27, x28, x29, x30, x31, x32, x33, x34, x35, rfl, ⟨cur, hcur⟩, hcells, hbel⟩
    have hW' : Wid w' := fun i hi => (hbel.cell (p := ⟨0, i, none⟩) (Nat.lt_of_lt_of_le hg₀ hn₀)).trans (hW i hi)
    have g0 : w'.cell? ⟨0, 0, none⟩ = some (.int .i64 1) := hW' 0 (by decide)
    have g1 : w'.cell? ⟨0, 1, none⟩ = some (.int .i64 1) := hW' 1 (by decide)
    have g2 : w'.cell? ⟨0, 2, none⟩ = some (.int .i64 2) := hW' 2 (by decide)
    have g3 : w'.cell? ⟨0, 3, none⟩ = some (.int .i64 2) := hW' 3 (by decide)
    have g4 : w'.cell? ⟨0, 4, none⟩ = some (.int .i64 2) := hW' 4 (by decide)
    have g5 : w'.cell? ⟨0, 5, none⟩ = some (.int .i64 1) := hW' 5 (by decide)
    have g6 : w'.cell? ⟨0, 6, none⟩ = some (.int .i64 1) := hW' 6 (by decide)
    have g7 : w'.cell? ⟨0, 7, none⟩ = some (.int .i64 2) := hW' 7 (by decide)
    have g8 : w'.cell? ⟨0, 8, none⟩ = some (.int .i64 4) := hW' 8 (by decide)
    have g9 : w'.cell? ⟨0, 9, none⟩ = some (.int .i64 4) := hW' 9 (by decide)
    have hJ' : J [] w' := HJ.out [] W w' none h0 (grown_of_below hbel none) (fun r h => by cases h)
    have hf := fun i => numAt_in hsv hnu hfl hho hpr hsr hds hsz i
    generalize hF : numAt sv nu fl ho pr sr ds on pn = f at hcells hf
    clear hsv hnu hfl hho hpr hsr hds hsz c0 c1 c2 c3 c4 c5 c6 c7 c8 hW hW' HR HB
    have HF := Lib.hid hF
    clear hF
    gi_wp2
    clear g0 g1 g2 g3 g4 g5 g6 g7 g8 g9
    gi_loopw [37] (fun i wr => ∃ k : Nat, k ≤ 10 ∧ i = .int .i64 k ∧ J (uptoA (wnAt f hf) k) wr ∧ KeepT n₀ [50, 26] w' wr)
      (fun i _ => 10 - (intOf i).toNat)
    case atStart => exact ⟨0, by omega, rfl, hJ', KeepT.refl _ _ _⟩
    case round =>
      obtain ⟨k, hk, rfl, hJs, hnx⟩ := hrel
      by_cases hlt10 : k < 10
      · have hcB := hnx.2 Ba cur _ _ (by simp) hcur
        have hcx : wr.cell? ⟨Ba, k, none⟩ = some (.int .u32 (f k)) := by
          rw [← hcells k hlt10, cell_of_row _ _ _ _ _ _ hcB, cell_of_row _ _ _ _ _ _ hcur]
        obtain ⟨fn, tmps, assign, body, hy, hRd⟩ := HY.out _ (wnAt f hf k) wr hJs (by rw [uptoA_length]; omega)
        have hix := run_widths k hlt10 wr
        have hw4 := widthAt_is k
        have hfk := hf k
        have FIN : Hid (∀ (e : Ending) (W3 : World), ((e = .returned (.bool true) ∧ J (uptoA (wnAt f hf) k ++ [wnAt f hf k]) W3 ∧ KeepT n₀ [50, 26] wr W3) ∨ (e = .returned (.bool false) ∧ Jx (uptoA (wnAt f hf) k ++ [wnAt f hf k]) W3)) →
            (e = .returned (.bool true) ∧ Hid (J (uptoA (wnAt f hf) (k + 1)) W3) ∧ Hid (KeepT n₀ [50, 26] w' W3)) ∨ (e = .returned (.bool false) ∧ Hid (Jx (uptoA (wnAt f hf) (k + 1)) W3))) := Lib.hid (by
          intro e W3 h
          rw [← uptoA_succ] at h
          exact h.imp (fun h => ⟨h.1, Lib.hid h.2.1, Lib.hid (keepT_t hnx h.2.2)⟩) (fun h => ⟨h.1, Lib.hid h.2⟩))
        have hy' : (Instr.yield l #[.int .i64 (widthAt k), .int .u32 (f k)]).run Tryd.prog wr = .ok (.round l fn tmps assign body) wr := hy
        clear hy hcells hcB hcur
        gi_wp2
        refine hRd.mono ?_
        intro e W3 h
        rcases FIN.out e W3 h with ⟨rfl, hJ3, hk3⟩ | ⟨rfl, hJx3⟩
        · gi_wp2
          go_roundw
          case rel => exact ⟨k + 1, by omega, by go_num, hJ3.out, hk3.out⟩
          case measure => simp [intOf]; omega
        · gi_wp2
          refine bodyPost_ret (results_none rfl _ _ _) rfl ?_
          exact ⟨⟨_, rfl⟩, .inr ⟨_, by rw [uptoA_length]; omega, hJx3.out⟩⟩
      · obtain rfl : k = 10 := by omega
        gi_wp2
        go_end0
        refine ⟨⟨_, rfl⟩, .inl ⟨_, ?_, hJs⟩⟩
        rw [HF.out]
        simp [uptoA, wnAt]
end Go.Proofs.YtjofijigfkkidaaDoor
