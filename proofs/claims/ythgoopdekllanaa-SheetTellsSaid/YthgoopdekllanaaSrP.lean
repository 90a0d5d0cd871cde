/- SrP: The document's numbers' bytes: put, take. A sheet's bytes: the document's Put. The sheet of bytes: the document's Take. -/
import Derived.Test.YthgoopdekllanaaShN
import Derived.Test.YthgoopdekllanaaShY
import Derived.Test.YthgoopdekllanaaSrA
import Derived.Test.YthgoopdekllanaaShC
import Derived.Deep.RegionHeldLaw
import Derived.Test.YthgoopdekllanaaShR

/- The document's numbers' bytes: put, take. -/
namespace Go.Proofs.Ythgoopdekllanaa
open Go.RowKit Go.Shelf
open SumM

attribute [local go_sem] Oper.semAt_some guard_undef

set_option maxRecDepth 100000 in
set_option maxHeartbeats 4000000 in
theorem r11put_any (n : Int) (k : Nat) (hk : k ≤ 6) (w : World) : Calls Try.prog 50 #[.int .i64 n, .int .i64 (k : Nat)] w fun e w' => ∃ v, e = .returned v ∧ w'.ownsRow w.heap.size 5 1 v k ((be k n).map (Value.int .u8)) ∧ Below w.heap.size w w' := by
  obtain ⟨i0, hi, hz0, hz1, hz2⟩ := info_parts Try.infoU8
  have hk1 : IntKind.i64.wrap ((k : Int) - 1) = (k : Int) - 1 := IntWalk.i64_in _ (by omega)
  go_enter Try.func50, Try.ntmps50
  go_wp2
  go_loopw [5, 6] (fun u i wr => ∃ (j : Nat) (i' : Int), i = .int .i64 i' ∧ i' = (k : Int) - 1 - j ∧ j ≤ k ∧ wr.ownsRow w.heap.size 5 1 u j ((beU k n j).map (Value.int .u8)) ∧ Below w.heap.size w wr) (fun _ i _ => (intOf i + 1).toNat)
  case atStart => exact ⟨0, (k : Int) - 1, rfl, by omega, by omega, World.ownsRow_nil _ _ _ _, Below.refl _ _⟩
  case round =>
    obtain ⟨j, i', rfl, hi', hj, hO, hB⟩ := hrel
    by_cases hlt : j < k
    · obtain ⟨m, rfl⟩ : ∃ m : Nat, i' = (m : Int) := ⟨i'.toNat, by omega⟩
      have hm : m = k - 1 - j := by omega
      have q3 : decide ((0 : Int) ≤ (m : Int)) = true := decide_eq_true (by omega)
      obtain ⟨a3, ha3⟩ : ∃ a, 8 * (m : Int) = a := ⟨_, rfl⟩
      have h34 : IntKind.i64.wrap (8 * (m : Int)) = a3 := by rw [← ha3]; exact IntWalk.i64_in _ (by omega)
      have h35 : IntKind.u64.wrap a3 = a3 := IntWalk.u64_in _ (by omega)
      have h0 : 0 ≤ a3 := by omega
      have h37 : IntKind.i64.wrap ((m : Int) - 1) = (m : Int) - 1 := IntWalk.i64_in _ (by omega)
      have h38 : wrap64 ((m : Int) - 1) = (m : Int) - 1 := IntWalk.wrap64_in _ (by omega)
      have hsh := beU_shift n m (by omega)
      rw [ha3] at hsh
      have hS := beU_succ k n j
      rw [← hm] at hS
      generalize n / 256 ^ m % 256 = y at *
      have HS := Lib.hid hS
      have HO := Lib.hid hO
      have HJ := Lib.hid (And.intro hj (And.intro hlt (And.intro hi' hk)))
      clear hS hm hlt hj hi' ha3
      obtain ⟨qv, h36⟩ : ∃ q, n / 2 ^ min a3.toNat 64 = q := ⟨_, rfl⟩
      rw [h36] at hsh
      go_wp2_with (at_builtin; refine wpList_append_own _ rfl _ _ 30 rfl w.heap.size 5 i0 (.int .u8 0) 1 1 Try.underlying30 hi hz0 hz1 hz2 rfl (by decide) _ _ _ rfl (HO.out.alloc _) ⟨wr.heap.size, 0, none⟩ 1 1 [.int .u8 y] rfl rfl (cell_one_new _ _ _) (by simp [Value.oneCell']) (by have := HJ.out; unfold maxLen; omega) (by have := HJ.out; omega) (by have := hB.size; simp; omega) ?_; intro v' w1 hown' hgrow _)
      have hB1 := Lib.hid (below_append hB hB.size HO.out hgrow)
      have ho1 := Lib.hid hown'
      clear hown' hgrow hB
      go_wp2
      go_roundw
      case rel =>
        refine ⟨j + 1, _, by go_num, by have := HJ.out; omega, by have := HJ.out; omega, ?_, hB1.out⟩
        rw [HS.out, List.map_append]
        exact ho1.out
      case measure => (simp [intOf]; try omega)
    · obtain rfl : j = k := by omega
      have hneg : decide ((0 : Int) ≤ i') = false := decide_eq_false (by omega)
      have HO := Lib.hid (show wr.ownsRow w.heap.size 5 1 u5 j ((be j n).map (Value.int .u8)) from hO)
      have HB := Lib.hid hB
      clear hO hB
      go_wp2
      go_ret
      exact ⟨_, rfl, HO.out, HB.out⟩

set_option maxRecDepth 100000 in
set_option maxHeartbeats 4000000 in
theorem r11take_any (A : Option Addr) (k c : Nat) (bs : List Int) (hl : bs.length = k) (hk : k ≤ 6) (hb : In 255 bs) (w : World) (hr : Row .u8 w.heap.size w A bs) : Calls Try.prog 53 #[.slice A k c] w fun e w' => e = .returned (.int .i64 (numOf bs)) ∧ Below w.heap.size w w' := by
  have HL := Lib.hid hl
  have HB := Lib.hid (And.intro hb hk)
  clear hl hb
  go_enter Try.func53, Try.ntmps53
  go_wp2
  go_loopw [3, 4] (fun u i wr => ∃ j : Nat, j ≤ k ∧ i = .int .i64 (j : Nat) ∧ u = .int .i64 (numOf (bs.take j)) ∧ ∃ n, wr = w.drewN n) (fun _ i _ => k - (intOf i).toNat)
  case atStart => exact ⟨0, by omega, rfl, rfl, 0, rfl⟩
  case round =>
    obtain ⟨j, hj, rfl, rfl, n, rfl⟩ := hrel
    by_cases hlt : j < k
    · obtain ⟨b1, off1, rfl, _, hc1⟩ := hr.2 (by rw [HL.out]; omega)
      have hcx := hc1 j (by rw [HL.out]; omega)
      have hj1 : (j : Int) < (k : Int) := by omega
      have hin := numOf_in (bs.take j) (fun x hx => HB.out.1 x (List.mem_of_mem_take hx))
      have hjl : j < bs.length := by rw [HL.out]; exact hlt
      have hx := HB.out.1 bs[j] (List.getElem_mem hjl)
      have hS : numOf (bs.take (j + 1)) = numOf (bs.take j) * 256 + bs[j] := by
        rw [List.take_add_one, List.getElem?_eq_getElem hjl]
        exact numOf_snoc _ _
      have hlen : (bs.take j).length ≤ 5 := by rw [List.length_take, HL.out]; have := HB.out.2; omega
      have hb5 : numOf (bs.take j) < 1099511627776 := by
        have h9 := hin.2
        generalize (bs.take j).length = L at h9 hlen
        have : L = 0 ∨ L = 1 ∨ L = 2 ∨ L = 3 ∨ L = 4 ∨ L = 5 := by omega
        rcases this with rfl | rfl | rfl | rfl | rfl | rfl <;> simp at h9 <;> omega
      rw [show bs[j]?.getD 0 = bs[j]'hjl by rw [List.getElem?_eq_getElem hjl]; rfl] at hcx
      generalize bs[j]'hjl = x at *
      generalize hN : numOf (bs.take j) = N at *
      have h1 : IntKind.i64.wrap (N * 256) = N * 256 := IntWalk.i64_in _ (by omega)
      have h2 : IntKind.i64.wrap x = x := IntWalk.i64_in _ (by omega)
      have h3 : IntKind.i64.wrap (N * 256 + x) = N * 256 + x := IntWalk.i64_in _ (by omega)
      have HS := Lib.hid hS
      clear hin hx hS hlen hb5 hjl hN hc1 hr
      go_wp2
      go_roundw
      case rel => exact ⟨j + 1, by omega, by go_num, by rw [HS.out], n, rfl⟩
      case measure => simp [intOf]; omega
    · obtain rfl : j = k := by omega
      have e : Hid (bs.take j = bs) := Lib.hid (List.take_of_length_le (by rw [HL.out]; exact Nat.le_refl _))
      go_wp2
      go_ret
      exact ⟨congrArg (fun x => Ending.returned (.int .i64 x)) (congrArg numOf e.out), ⟨rfl, rfl, rfl, Nat.le_refl _, fun _ _ => rfl⟩⟩
end Go.Proofs.Ythgoopdekllanaa

/- A sheet's bytes: the document's Put. -/
namespace Go.Proofs.Ythgoopdekllanaa
open Go.RowKit Go.Shelf
open SumM

attribute [local go_sem] Oper.semAt_some guard_undef

theorem one_cell {W : World} {b : Nat} {v : Value} {t : TypeId} (h : W.heap[b]? = some (.cells #[v] t (0, 0))) : ∀ j u, [v][j]? = some u → W.cell? ((⟨b, 0, none⟩ : Addr).add j) = some u := by
  intro j u hu
  rw [addr_add, cell_of_row _ _ _ _ _ _ h]
  simpa using hu
theorem ints_one {k : IntKind} (l : List Int) : ∀ u ∈ l.map (Value.int k), u.oneCell' = true := by
  intro u hu
  simp only [List.mem_map] at hu
  obtain ⟨n, _, rfl⟩ := hu
  rfl
theorem be_one (n : Nat) (h : n ≤ 16) : be 1 (n : Int) = [(n : Int)] := by
  have h1 : be 1 (n : Int) = [(n : Int) % 256] := by
    rw [be_succ]
    rfl
  rw [h1, show (n : Int) % 256 = n by omega]
theorem head_map {ba tv : Int} {n : Nat} (h : n ≤ 16) : (be 6 (ba + 1) ++ be 6 tv ++ be 1 (n : Int)).map (Value.int .u8) = (be 6 (ba + 1)).map (Value.int .u8) ++ (be 6 tv).map (Value.int .u8) ++ [.int .u8 n] := by
  rw [be_one n h, List.map_append, List.map_append]
  rfl

theorem be_lt (x : Int) (h : 0 ≤ x ∧ x ≤ 255) : be 1 x = [x] := by
  have h1 : be 1 x = [x % 256] := by
    rw [be_succ]
    rfl
  rw [h1, show x % 256 = x by omega]
theorem flat_len : ∀ (rs : List SR), (rs.flatMap rowB).length = 13 * rs.length
  | [] => rfl
  | r :: rs => by
    rw [List.flatMap_cons, List.length_append, flat_len rs]
    have : (rowB r).length = 13 := by simp [rowB, be_length]
    rw [this, List.length_cons]
    omega
theorem three_cells (W : World) (a b c : Value) (t : TypeId) : ∀ j u, [a, b, c][j]? = some u → (W.alloc (.cells #[a, b, c] t)).cell? ((⟨W.heap.size, 0, none⟩ : Addr).add j) = some u := by
  intro j u hu
  rw [addr_add, cell_of_row _ _ _ _ _ _ (heap_alloc_new W _)]
  simpa using hu

theorem kept_other {W W2 : World} {base s k : Nat} {e : TypeId} {v : Value} {xs : List Value} (hown : W.ownsRow base e s v k xs) (g : W.grownBy W2 v.ownBlock) {b : Nat} {cs : Array Value} {t : TypeId} {r : Nat × Nat} (hb : W.heap[b]? = some (.cells cs t r)) (ht : t ≠ e) : W2.heap[b]? = some (.cells cs t r) := by
  have hlt : b < W.heap.size := (Array.getElem?_eq_some_iff.1 hb).1
  have hne : some b ≠ v.ownBlock := by
    intro he
    rcases hown.2 with ⟨rfl, _⟩ | ⟨g, cap, cur', rfl, _, hg, _⟩
    · cases he
    · simp only [Value.ownBlock, Option.some.injEq] at he
      subst he
      rw [hg] at hb
      injection hb with hb
      injection hb with _ e2 _
      exact ht e2.symm
  exact (g.block b hlt hne).trans hb

set_option maxRecDepth 100000 in
set_option maxHeartbeats 4000000 in
theorem r11Put_any (ba tv : Int) (sa : Option Addr) (sn sc : Nat) (rs : List SR) (hl : rs.length = sn) (hs : sn ≤ 4000000) (w : World) (h : SRow5 w.heap.size w sa rs) :
    Calls Try.prog 16 #[.agg #[.int .i64 ba, .int .i64 tv, .slice sa sn sc]] w (SPut ba tv rs w) := by
  have bS := heap_alloc_new w (.cells #[.int .i64 ba, .int .i64 tv, .slice sa sn sc] 29)
  have L0 := (Below.refl w.heap.size w).alloc (Nat.le_refl _) (.cells #[.int .i64 ba, .int .i64 tv, .slice sa sn sc] 29)
  obtain ⟨g, hg⟩ : ∃ g, shOk ba tv rs = g := ⟨_, rfl⟩
  have HG := Lib.hid hg
  obtain ⟨q0, q1, q2⟩ := sh_cells _ _ _ _ _ bS
  go_enter Try.func16, Try.ntmps16
  go_upto_region 1 with fail
  generalize w.alloc (.cells #[.int .i64 ba, .int .i64 tv, .slice sa sn sc] 29) = W0 at *
  have KR := Lib.hid (hg ▸ r11Right_any ba tv sa sn sc rs hl hs W0 ((h.below L0).more L0.size))
  go_wp2_with fail
  refine KR.out.mono ?_
  rintro e w1 ⟨rfl, m1⟩
  replace bS := bb bS m1
  replace L0 := L0.trans (m1.mono L0.size)
  clear q0 q1 q2 m1 KR
  cases g
  · have HX := Lib.hid L0
    clear bS L0
    have hB : spB ba tv rs = [] := by unfold spB; rw [hg]; rfl
    have hE : spE ba tv rs = 2 := by unfold spE; rw [hg]; rfl
    go_wp2
    refine bodyPost_ret (results_tmp2 rfl _ _ _) rfl ⟨.slice none 0 0, ?_, ?_, HX.out⟩
    · rw [hE]
      rfl
    · rw [hB]
      exact World.ownsRow_nil _ _ _ _
  obtain ⟨i0, hi, hz0, hz1, hz2⟩ := info_parts Try.infoU8
  have hk := shOk_iff hg
  have HK := Lib.hid (And.intro hk.2.2.1 (And.intro (rises_mem rs (-1) (by omega) hk.2.2.2) hl))
  have h30 : IntKind.i64.wrap (ba + 1) = ba + 1 := IntWalk.i64_in _ (by omega)
  have h31 : IntKind.u8.wrap (sn : Int) = (sn : Int) := IntWalk.u8_in _ (by have := hk.2.2.1; omega)
  have HSR := Lib.hid h
  have HHB := Lib.hid (show spB ba tv rs = shB ba tv rs ∧ spE ba tv rs = 0 from ⟨by unfold spB; rw [hg]; rfl, by unfold spE; rw [hg]; rfl⟩)
  clear hk h hg HG hs
  have CS := Lib.hid (fun W (m : Below w1.heap.size w1 W) => sh_cells _ _ _ _ _ (bb bS m))
  have CB2 := Lib.hid (fun W (m : Below w1.heap.size w1 W) => And.intro (bb bS m) (L0.trans (m.mono L0.size)))
  clear bS L0
  have nc := (Below.refl w1.heap.size w1).drew
  go_upto_region 3 with fail
  go_cut [4] from 7 (fun v wx => wx.ownsRow w1.heap.size 5 1 v 13 ((be 6 (ba + 1) ++ be 6 tv ++ be 1 rs.length).map (Value.int .u8)) ∧ Below w1.heap.size w1 wx)
  case first =>
    refine wp_region_held_drew (S := fun W => W.cell? ⟨w.heap.size, 0, none⟩ = some (.int .i64 ba) ∧ W.cell? ⟨w.heap.size, 1, none⟩ = some (.int .i64 tv) ∧ W.cell? ⟨w.heap.size, 2, none⟩ = some (.slice sa sn sc)) (by kernel_rfl) (CS.out _ nc) (fun hHeld => ?_)
    generalize w1.drew = V0 at *
    refine wpAnyH_take (i := 0) (oi := { dst := some 10, op := Op.fieldAddr 29 (Operand.tmp 1) 0, type := 0, pos := "ref.go:92", after := #[], guard := none }) (v := ?_) rfl (by kernel_rfl) (by kernel_rfl) (by kernel_rfl) (fun _ _ _ h => h) (Or.inl ⟨by rfl, ?_⟩) (by assumption) ?_
    rotate_left
    · intro w hSw
      (try dsimp only at hSw)
      first | (go_simp; done) | (go_simp; with_reducible rfl)
    (try simp only [Act.put, List.setIfInBounds_toArray, List.set_cons_zero, List.set_cons_succ])
    refine wpAnyH_take (i := 1) (oi := { dst := some 11, op := Op.load 3 (Operand.tmp 10), type := 3, pos := "ref.go:92", after := #[{ on := 0, ground := Ground.data }], guard := none }) (v := ?_) rfl (by kernel_rfl) (by kernel_rfl) (by kernel_rfl) (fun _ _ _ h => h) (Or.inl ⟨by rfl, ?_⟩) (by assumption) ?_
    rotate_left
    · intro w hSw
      (try dsimp only at hSw)
      first | (go_simp; done) | (go_simp; with_reducible rfl)
    (try simp only [Act.put, List.setIfInBounds_toArray, List.set_cons_zero, List.set_cons_succ])
    refine wpAnyH_take (i := 2) (oi := { dst := some 12, op := Op.binOp BinOp.add 3 (Operand.tmp 11) (Operand.const (Value.int IntKind.i64 1)) 3, type := 3, pos := "ref.go:92", after := #[{ on := 1, ground := Ground.data }], guard := none }) (v := ?_) rfl (by kernel_rfl) (by kernel_rfl) (by kernel_rfl) (fun _ _ _ h => h) (Or.inl ⟨by rfl, ?_⟩) (by assumption) ?_
    rotate_left
    · intro w hSw
      (try dsimp only at hSw)
      first | (go_simp; done) | (go_simp; with_reducible rfl)
    (try simp only [Act.put, List.setIfInBounds_toArray, List.set_cons_zero, List.set_cons_succ])
    refine wpAnyH_take (i := 4) (oi := { dst := some 14, op := Op.fieldAddr 29 (Operand.tmp 1) 1, type := 0, pos := "ref.go:92", after := #[], guard := none }) (v := ?_) rfl (by kernel_rfl) (by kernel_rfl) (by kernel_rfl) (fun _ _ _ h => h) (Or.inl ⟨by rfl, ?_⟩) (by assumption) ?_
    rotate_left
    · intro w hSw
      (try dsimp only at hSw)
      first | (go_simp; done) | (go_simp; with_reducible rfl)
    (try simp only [Act.put, List.setIfInBounds_toArray, List.set_cons_zero, List.set_cons_succ])
    refine wpAnyH_take (i := 5) (oi := { dst := some 15, op := Op.load 3 (Operand.tmp 14), type := 3, pos := "ref.go:92", after := #[{ on := 4, ground := Ground.data }], guard := none }) (v := ?_) rfl (by kernel_rfl) (by kernel_rfl) (by kernel_rfl) (fun _ _ _ h => h) (Or.inl ⟨by rfl, ?_⟩) (by assumption) ?_
    rotate_left
    · intro w hSw
      (try dsimp only at hSw)
      first | (go_simp; done) | (go_simp; with_reducible rfl)
    (try simp only [Act.put, List.setIfInBounds_toArray, List.set_cons_zero, List.set_cons_succ])
    refine wpAnyH_take (i := 8) (oi := { dst := some 18, op := Op.fieldAddr 29 (Operand.tmp 1) 2, type := 0, pos := "ref.go:92", after := #[], guard := none }) (v := ?_) rfl (by kernel_rfl) (by kernel_rfl) (by kernel_rfl) (fun _ _ _ h => h) (Or.inl ⟨by rfl, ?_⟩) (by assumption) ?_
    rotate_left
    · intro w hSw
      (try dsimp only at hSw)
      first | (go_simp; done) | (go_simp; with_reducible rfl)
    (try simp only [Act.put, List.setIfInBounds_toArray, List.set_cons_zero, List.set_cons_succ])
    refine wpAnyH_take (i := 9) (oi := { dst := some 19, op := Op.load 27 (Operand.tmp 18), type := 27, pos := "ref.go:92", after := #[{ on := 8, ground := Ground.data }], guard := none }) (v := ?_) rfl (by kernel_rfl) (by kernel_rfl) (by kernel_rfl) (fun _ _ _ h => h) (Or.inl ⟨by rfl, ?_⟩) (by assumption) ?_
    rotate_left
    · intro w hSw
      (try dsimp only at hSw)
      first | (go_simp; done) | (go_simp; with_reducible rfl)
    (try simp only [Act.put, List.setIfInBounds_toArray, List.set_cons_zero, List.set_cons_succ])
    refine wpAnyH_take (i := 10) (oi := { dst := some 20, op := Op.call { callee := Callee.builtin Builtin.len, args := #[Operand.tmp 19], argTypes := #[27] }, type := 3, pos := "ref.go:92", after := #[{ on := 9, ground := Ground.data }], guard := none }) (v := ?_) rfl (by kernel_rfl) (by kernel_rfl) (by kernel_rfl) (fun _ _ _ h => h) (Or.inl ⟨by rfl, ?_⟩) (by assumption) ?_
    rotate_left
    · intro w hSw
      (try dsimp only at hSw)
      first | (go_simp; done) | (go_simp; with_reducible rfl)
    (try simp only [Act.put, List.setIfInBounds_toArray, List.set_cons_zero, List.set_cons_succ])
    refine wpAnyH_take (i := 11) (oi := { dst := some 21, op := Op.convert 3 5 (Operand.tmp 20), type := 5, pos := "ref.go:92", after := #[{ on := 10, ground := Ground.data }], guard := none }) (v := ?_) rfl (by kernel_rfl) (by kernel_rfl) (by kernel_rfl) (fun _ _ _ h => h) (Or.inl ⟨by rfl, ?_⟩) (by assumption) ?_
    rotate_left
    · intro w hSw
      (try dsimp only at hSw)
      first | (go_simp; done) | (go_simp; with_reducible rfl)
    (try simp only [Act.put, List.setIfInBounds_toArray, List.set_cons_zero, List.set_cons_succ])
    refine wpAnyH_ready (rs := [3, 12]) (by kernel_rfl) (by simp) ?_
    refine AllReadyH.cons (o := { dst := some 13, op := Op.call { callee := Callee.value (Operand.func 50), args := #[Operand.tmp 12, Operand.const (Value.int IntKind.i64 6)], argTypes := #[3, 3] }, type := 30, pos := "ref.go:92", after := #[{ on := 2, ground := Ground.data }], guard := none }) rfl (fun K hK => ?_) (AllReadyH.cons (o := { dst := some 22, op := Op.buildSlice 30 1 #[(0, Operand.tmp 21)], type := 30, pos := "ref.go:92", after := #[{ on := 11, ground := Ground.data }], guard := none }) rfl (fun K hK => ?_) AllReadyH.nil)
    · skip
      go_simp
      refine (r11put_any (ba + 1) 6 (by omega) V0).mono ?_
      rintro e V1 ⟨vA, rfl, OA, jx⟩
      obtain ⟨gA, cA, rfl, hgA⟩ := own_form OA (by omega)
      replace OA := ownS_base OA nc.size
      clear hgA
      replace nc := nc.trans (jx.mono nc.size)
      clear jx
      clear hHeld
      refine hK.out _ _ (CS.out _ nc) (fun hHeld => ?_)
      clear hK K
      (try simp only [Act.put, List.setIfInBounds_toArray, List.set_cons_zero, List.set_cons_succ])
      refine wpAnyH_ready (rs := [6, 12]) (by kernel_rfl) (by simp) ?_
      refine AllReadyH.cons (o := { dst := some 16, op := Op.call { callee := Callee.value (Operand.func 50), args := #[Operand.tmp 15, Operand.const (Value.int IntKind.i64 6)], argTypes := #[3, 3] }, type := 30, pos := "ref.go:92", after := #[{ on := 5, ground := Ground.data }, { on := 3, ground := Ground.chain }], guard := none }) rfl (fun K hK => ?_) (AllReadyH.cons (o := { dst := some 22, op := Op.buildSlice 30 1 #[(0, Operand.tmp 21)], type := 30, pos := "ref.go:92", after := #[{ on := 11, ground := Ground.data }], guard := none }) rfl (fun K hK => ?_) AllReadyH.nil)
      · skip
        go_simp
        refine (r11put_any tv 6 (by omega) V1).mono ?_
        rintro e V2 ⟨vB, rfl, OB, jx⟩
        obtain ⟨gB, cB, rfl, hgB⟩ := own_form OB (by omega)
        replace OA := ownS_below OA jx
        clear hgB
        replace nc := nc.trans (jx.mono nc.size)
        clear jx
        clear hHeld
        refine hK.out _ _ (CS.out _ nc) (fun hHeld => ?_)
        clear hK K
        (try simp only [Act.put, List.setIfInBounds_toArray, List.set_cons_zero, List.set_cons_succ])
        refine wpAnyH_ready (rs := [7, 12]) (by kernel_rfl) (by simp) ?_
        refine AllReadyH.cons (o := { dst := some 17, op := Op.call { callee := Callee.builtin Builtin.append, args := #[Operand.tmp 13, Operand.tmp 16], argTypes := #[30, 30] }, type := 30, pos := "ref.go:92", after := #[{ on := 3, ground := Ground.data }, { on := 6, ground := Ground.data }, { on := 6, ground := Ground.chain }], guard := none }) rfl (fun K hK => ?_) (AllReadyH.cons (o := { dst := some 22, op := Op.buildSlice 30 1 #[(0, Operand.tmp 21)], type := 30, pos := "ref.go:92", after := #[{ on := 11, ground := Ground.data }], guard := none }) rfl (fun K hK => ?_) AllReadyH.nil)
        · skip
          refine step_append_s _ (by rfl) _ _ _ (by rfl) w1.heap.size 5 i0 (.int .u8 0) 1 1 Try.underlying30 hi hz0 hz1 hz2 rfl (by decide) (.slice (some ⟨gA, 0, none⟩) 6 cA) 6 _ rfl OA ⟨gB, 0, none⟩ 6 cB ((be 6 tv).map (Value.int .u8)) rfl (by simp [be_length]) (OB.cells rfl) (ints_one _) (by omega) (by unfold maxLen; omega) (by omega) nc.size ?_
          intro gX cX V3 OX GX
          replace nc := nc.grown GX nc.size (fun k hk => (OA.lt k hk).1)
          clear GX OA OB
          clear hHeld
          refine hK.out _ _ (CS.out _ nc) (fun hHeld => ?_)
          clear hK K
          (try simp only [Act.put, List.setIfInBounds_toArray, List.set_cons_zero, List.set_cons_succ])
          refine wpAnyH_ready (rs := [12]) (by kernel_rfl) (by simp) ?_
          refine AllReadyH.cons (o := { dst := some 22, op := Op.buildSlice 30 1 #[(0, Operand.tmp 21)], type := 30, pos := "ref.go:92", after := #[{ on := 11, ground := Ground.data }], guard := none }) rfl (fun K hK => ?_) AllReadyH.nil
          go_simp
          have hA := heap_alloc_new V3 (.cells #[.int .u8 (sn : Nat)] 5)
          replace OX := OX.alloc (.cells #[.int .u8 (sn : Nat)] 5)
          replace nc := nc.alloc nc.size (.cells #[.int .u8 (sn : Nat)] 5)
          clear hHeld
          refine hK.out _ _ (CS.out _ nc) (fun hHeld => ?_)
          clear hK K
          (try simp only [Act.put, List.setIfInBounds_toArray, List.set_cons_zero, List.set_cons_succ])
          generalize V3.alloc (.cells #[.int .u8 (sn : Nat)] 5) = V4 at *
          generalize V3.heap.size = bA at *
          refine wpAnyH_ready (rs := [13]) (by kernel_rfl) (by simp) ?_
          refine AllReadyH.cons (o := { dst := some 23, op := Op.call { callee := Callee.builtin Builtin.append, args := #[Operand.tmp 17, Operand.tmp 22], argTypes := #[30, 30] }, type := 30, pos := "ref.go:92", after := #[{ on := 7, ground := Ground.data }, { on := 12, ground := Ground.data }, { on := 7, ground := Ground.chain }], guard := none }) rfl (fun K hK => ?_) AllReadyH.nil
          refine step_append_s _ (by rfl) _ _ _ (by rfl) w1.heap.size 5 i0 (.int .u8 0) 1 1 Try.underlying30 hi hz0 hz1 hz2 rfl (by decide) (.slice (some ⟨gX, 0, none⟩) (6 + 6) cX) (6 + 6) _ rfl OX ⟨bA, 0, none⟩ 1 1 [.int .u8 (sn : Nat)] rfl rfl (one_cell hA) (by simp [Value.oneCell']) (by omega) (by unfold maxLen; omega) (by omega) nc.size ?_
          intro gY cY V5 OY GY
          replace nc := nc.grown GY nc.size (fun k hk => (OX.lt k hk).1)
          clear GY OX hA
          clear hHeld
          refine hK.out _ _ (CS.out _ nc) (fun hHeld => ?_)
          clear hK K
          (try simp only [Act.put, List.setIfInBounds_toArray, List.set_cons_zero, List.set_cons_succ])
          refine wpAnyH_take (i := 14) (oi := { dst := some 4, op := Op.assign (Operand.tmp 23), type := 30, pos := "ref.go:92", after := #[{ on := 13, ground := Ground.data }, { on := 13, ground := Ground.chain }, { on := 0, ground := Ground.phase }, { on := 1, ground := Ground.phase }, { on := 2, ground := Ground.phase }, { on := 3, ground := Ground.phase }, { on := 4, ground := Ground.phase }, { on := 5, ground := Ground.phase }, { on := 6, ground := Ground.phase }, { on := 7, ground := Ground.phase }, { on := 8, ground := Ground.phase }, { on := 9, ground := Ground.phase }, { on := 10, ground := Ground.phase }, { on := 11, ground := Ground.phase }, { on := 12, ground := Ground.phase }, { on := 13, ground := Ground.phase }], guard := none }) (v := ?_) rfl (by kernel_rfl) (by kernel_rfl) (by kernel_rfl) (fun _ _ _ h => h) (Or.inl ⟨by rfl, ?_⟩) (by assumption) ?_
          rotate_left
          · intro w hSw
            (try dsimp only at hSw)
            first | (go_simp; done) | (go_simp; with_reducible rfl)
          (try simp only [Act.put, List.setIfInBounds_toArray, List.set_cons_zero, List.set_cons_succ])
          refine wpAnyH_done (by kernel_rfl) ?_ _
          have HN := Lib.hid (And.intro OY nc)
          clear OY nc CS
          go_wp2_with fail
          go_meet
          refine ⟨?_, HN.out.2⟩
          rw [head_map HK.out.1, HK.out.2.2]
          exact HN.out.1
        · skip
          go_simp
          have hA := heap_alloc_new V2 (.cells #[.int .u8 (sn : Nat)] 5)
          have hLA : V2.heap.size ≠ gA := by have := (OA.lt gA rfl).2; omega
          replace OA := OA.alloc (.cells #[.int .u8 (sn : Nat)] 5)
          replace OB := OB.alloc (.cells #[.int .u8 (sn : Nat)] 5)
          replace nc := nc.alloc nc.size (.cells #[.int .u8 (sn : Nat)] 5)
          clear hHeld
          refine hK.out _ _ (CS.out _ nc) (fun hHeld => ?_)
          clear hK K
          (try simp only [Act.put, List.setIfInBounds_toArray, List.set_cons_zero, List.set_cons_succ])
          generalize V2.alloc (.cells #[.int .u8 (sn : Nat)] 5) = V6 at *
          generalize V2.heap.size = bA at *
          refine wpAnyH_ready (rs := [7]) (by kernel_rfl) (by simp) ?_
          refine AllReadyH.cons (o := { dst := some 17, op := Op.call { callee := Callee.builtin Builtin.append, args := #[Operand.tmp 13, Operand.tmp 16], argTypes := #[30, 30] }, type := 30, pos := "ref.go:92", after := #[{ on := 3, ground := Ground.data }, { on := 6, ground := Ground.data }, { on := 6, ground := Ground.chain }], guard := none }) rfl (fun K hK => ?_) AllReadyH.nil
          refine step_append_s _ (by rfl) _ _ _ (by rfl) w1.heap.size 5 i0 (.int .u8 0) 1 1 Try.underlying30 hi hz0 hz1 hz2 rfl (by decide) (.slice (some ⟨gA, 0, none⟩) 6 cA) 6 _ rfl OA ⟨gB, 0, none⟩ 6 cB ((be 6 tv).map (Value.int .u8)) rfl (by simp [be_length]) (OB.cells rfl) (ints_one _) (by omega) (by unfold maxLen; omega) (by omega) nc.size ?_
          intro gX cX V7 OX GX
          replace hA := (GX.block bA (nb_lt2 hA) (by simp only [Value.ownBlock, ne_eq, Option.some.injEq]; exact hLA)).trans hA
          replace nc := nc.grown GX nc.size (fun k hk => (OA.lt k hk).1)
          clear GX OA OB
          clear hHeld
          refine hK.out _ _ (CS.out _ nc) (fun hHeld => ?_)
          clear hK K
          (try simp only [Act.put, List.setIfInBounds_toArray, List.set_cons_zero, List.set_cons_succ])
          refine wpAnyH_ready (rs := [13]) (by kernel_rfl) (by simp) ?_
          refine AllReadyH.cons (o := { dst := some 23, op := Op.call { callee := Callee.builtin Builtin.append, args := #[Operand.tmp 17, Operand.tmp 22], argTypes := #[30, 30] }, type := 30, pos := "ref.go:92", after := #[{ on := 7, ground := Ground.data }, { on := 12, ground := Ground.data }, { on := 7, ground := Ground.chain }], guard := none }) rfl (fun K hK => ?_) AllReadyH.nil
          refine step_append_s _ (by rfl) _ _ _ (by rfl) w1.heap.size 5 i0 (.int .u8 0) 1 1 Try.underlying30 hi hz0 hz1 hz2 rfl (by decide) (.slice (some ⟨gX, 0, none⟩) (6 + 6) cX) (6 + 6) _ rfl OX ⟨bA, 0, none⟩ 1 1 [.int .u8 (sn : Nat)] rfl rfl (one_cell hA) (by simp [Value.oneCell']) (by omega) (by unfold maxLen; omega) (by omega) nc.size ?_
          intro gY cY V8 OY GY
          replace nc := nc.grown GY nc.size (fun k hk => (OX.lt k hk).1)
          clear GY OX hA
          clear hHeld
          refine hK.out _ _ (CS.out _ nc) (fun hHeld => ?_)
          clear hK K
          (try simp only [Act.put, List.setIfInBounds_toArray, List.set_cons_zero, List.set_cons_succ])
          refine wpAnyH_take (i := 14) (oi := { dst := some 4, op := Op.assign (Operand.tmp 23), type := 30, pos := "ref.go:92", after := #[{ on := 13, ground := Ground.data }, { on := 13, ground := Ground.chain }, { on := 0, ground := Ground.phase }, { on := 1, ground := Ground.phase }, { on := 2, ground := Ground.phase }, { on := 3, ground := Ground.phase }, { on := 4, ground := Ground.phase }, { on := 5, ground := Ground.phase }, { on := 6, ground := Ground.phase }, { on := 7, ground := Ground.phase }, { on := 8, ground := Ground.phase }, { on := 9, ground := Ground.phase }, { on := 10, ground := Ground.phase }, { on := 11, ground := Ground.phase }, { on := 12, ground := Ground.phase }, { on := 13, ground := Ground.phase }], guard := none }) (v := ?_) rfl (by kernel_rfl) (by kernel_rfl) (by kernel_rfl) (fun _ _ _ h => h) (Or.inl ⟨by rfl, ?_⟩) (by assumption) ?_
          rotate_left
          · intro w hSw
            (try dsimp only at hSw)
            first | (go_simp; done) | (go_simp; with_reducible rfl)
          (try simp only [Act.put, List.setIfInBounds_toArray, List.set_cons_zero, List.set_cons_succ])
          refine wpAnyH_done (by kernel_rfl) ?_ _
          have HN := Lib.hid (And.intro OY nc)
          clear OY nc CS
          go_wp2_with fail
          go_meet
          refine ⟨?_, HN.out.2⟩
          rw [head_map HK.out.1, HK.out.2.2]
          exact HN.out.1
      · skip
        go_simp
        have hA := heap_alloc_new V1 (.cells #[.int .u8 (sn : Nat)] 5)
        have hLA : V1.heap.size ≠ gA := by have := (OA.lt gA rfl).2; omega
        replace OA := OA.alloc (.cells #[.int .u8 (sn : Nat)] 5)
        replace nc := nc.alloc nc.size (.cells #[.int .u8 (sn : Nat)] 5)
        clear hHeld
        refine hK.out _ _ (CS.out _ nc) (fun hHeld => ?_)
        clear hK K
        (try simp only [Act.put, List.setIfInBounds_toArray, List.set_cons_zero, List.set_cons_succ])
        generalize V1.alloc (.cells #[.int .u8 (sn : Nat)] 5) = V9 at *
        generalize V1.heap.size = bA at *
        refine wpAnyH_ready (rs := [6]) (by kernel_rfl) (by simp) ?_
        refine AllReadyH.cons (o := { dst := some 16, op := Op.call { callee := Callee.value (Operand.func 50), args := #[Operand.tmp 15, Operand.const (Value.int IntKind.i64 6)], argTypes := #[3, 3] }, type := 30, pos := "ref.go:92", after := #[{ on := 5, ground := Ground.data }, { on := 3, ground := Ground.chain }], guard := none }) rfl (fun K hK => ?_) AllReadyH.nil
        go_simp
        refine (r11put_any tv 6 (by omega) V9).mono ?_
        rintro e V10 ⟨vB, rfl, OB, jx⟩
        obtain ⟨gB, cB, rfl, hgB⟩ := own_form OB (by omega)
        replace OA := ownS_below OA jx
        replace hA := bb hA jx
        clear hgB
        replace nc := nc.trans (jx.mono nc.size)
        clear jx
        clear hHeld
        refine hK.out _ _ (CS.out _ nc) (fun hHeld => ?_)
        clear hK K
        (try simp only [Act.put, List.setIfInBounds_toArray, List.set_cons_zero, List.set_cons_succ])
        refine wpAnyH_ready (rs := [7]) (by kernel_rfl) (by simp) ?_
        refine AllReadyH.cons (o := { dst := some 17, op := Op.call { callee := Callee.builtin Builtin.append, args := #[Operand.tmp 13, Operand.tmp 16], argTypes := #[30, 30] }, type := 30, pos := "ref.go:92", after := #[{ on := 3, ground := Ground.data }, { on := 6, ground := Ground.data }, { on := 6, ground := Ground.chain }], guard := none }) rfl (fun K hK => ?_) AllReadyH.nil
        refine step_append_s _ (by rfl) _ _ _ (by rfl) w1.heap.size 5 i0 (.int .u8 0) 1 1 Try.underlying30 hi hz0 hz1 hz2 rfl (by decide) (.slice (some ⟨gA, 0, none⟩) 6 cA) 6 _ rfl OA ⟨gB, 0, none⟩ 6 cB ((be 6 tv).map (Value.int .u8)) rfl (by simp [be_length]) (OB.cells rfl) (ints_one _) (by omega) (by unfold maxLen; omega) (by omega) nc.size ?_
        intro gX cX V11 OX GX
        replace hA := (GX.block bA (nb_lt2 hA) (by simp only [Value.ownBlock, ne_eq, Option.some.injEq]; exact hLA)).trans hA
        replace nc := nc.grown GX nc.size (fun k hk => (OA.lt k hk).1)
        clear GX OA OB
        clear hHeld
        refine hK.out _ _ (CS.out _ nc) (fun hHeld => ?_)
        clear hK K
        (try simp only [Act.put, List.setIfInBounds_toArray, List.set_cons_zero, List.set_cons_succ])
        refine wpAnyH_ready (rs := [13]) (by kernel_rfl) (by simp) ?_
        refine AllReadyH.cons (o := { dst := some 23, op := Op.call { callee := Callee.builtin Builtin.append, args := #[Operand.tmp 17, Operand.tmp 22], argTypes := #[30, 30] }, type := 30, pos := "ref.go:92", after := #[{ on := 7, ground := Ground.data }, { on := 12, ground := Ground.data }, { on := 7, ground := Ground.chain }], guard := none }) rfl (fun K hK => ?_) AllReadyH.nil
        refine step_append_s _ (by rfl) _ _ _ (by rfl) w1.heap.size 5 i0 (.int .u8 0) 1 1 Try.underlying30 hi hz0 hz1 hz2 rfl (by decide) (.slice (some ⟨gX, 0, none⟩) (6 + 6) cX) (6 + 6) _ rfl OX ⟨bA, 0, none⟩ 1 1 [.int .u8 (sn : Nat)] rfl rfl (one_cell hA) (by simp [Value.oneCell']) (by omega) (by unfold maxLen; omega) (by omega) nc.size ?_
        intro gY cY V12 OY GY
        replace nc := nc.grown GY nc.size (fun k hk => (OX.lt k hk).1)
        clear GY OX hA
        clear hHeld
        refine hK.out _ _ (CS.out _ nc) (fun hHeld => ?_)
        clear hK K
        (try simp only [Act.put, List.setIfInBounds_toArray, List.set_cons_zero, List.set_cons_succ])
        refine wpAnyH_take (i := 14) (oi := { dst := some 4, op := Op.assign (Operand.tmp 23), type := 30, pos := "ref.go:92", after := #[{ on := 13, ground := Ground.data }, { on := 13, ground := Ground.chain }, { on := 0, ground := Ground.phase }, { on := 1, ground := Ground.phase }, { on := 2, ground := Ground.phase }, { on := 3, ground := Ground.phase }, { on := 4, ground := Ground.phase }, { on := 5, ground := Ground.phase }, { on := 6, ground := Ground.phase }, { on := 7, ground := Ground.phase }, { on := 8, ground := Ground.phase }, { on := 9, ground := Ground.phase }, { on := 10, ground := Ground.phase }, { on := 11, ground := Ground.phase }, { on := 12, ground := Ground.phase }, { on := 13, ground := Ground.phase }], guard := none }) (v := ?_) rfl (by kernel_rfl) (by kernel_rfl) (by kernel_rfl) (fun _ _ _ h => h) (Or.inl ⟨by rfl, ?_⟩) (by assumption) ?_
        rotate_left
        · intro w hSw
          (try dsimp only at hSw)
          first | (go_simp; done) | (go_simp; with_reducible rfl)
        (try simp only [Act.put, List.setIfInBounds_toArray, List.set_cons_zero, List.set_cons_succ])
        refine wpAnyH_done (by kernel_rfl) ?_ _
        have HN := Lib.hid (And.intro OY nc)
        clear OY nc CS
        go_wp2_with fail
        go_meet
        refine ⟨?_, HN.out.2⟩
        rw [head_map HK.out.1, HK.out.2.2]
        exact HN.out.1
    · skip
      go_simp
      have hA := heap_alloc_new V0 (.cells #[.int .u8 (sn : Nat)] 5)
      replace nc := nc.alloc nc.size (.cells #[.int .u8 (sn : Nat)] 5)
      clear hHeld
      refine hK.out _ _ (CS.out _ nc) (fun hHeld => ?_)
      clear hK K
      (try simp only [Act.put, List.setIfInBounds_toArray, List.set_cons_zero, List.set_cons_succ])
      generalize V0.alloc (.cells #[.int .u8 (sn : Nat)] 5) = V13 at *
      generalize V0.heap.size = bA at *
      refine wpAnyH_ready (rs := [3]) (by kernel_rfl) (by simp) ?_
      refine AllReadyH.cons (o := { dst := some 13, op := Op.call { callee := Callee.value (Operand.func 50), args := #[Operand.tmp 12, Operand.const (Value.int IntKind.i64 6)], argTypes := #[3, 3] }, type := 30, pos := "ref.go:92", after := #[{ on := 2, ground := Ground.data }], guard := none }) rfl (fun K hK => ?_) AllReadyH.nil
      go_simp
      refine (r11put_any (ba + 1) 6 (by omega) V13).mono ?_
      rintro e V14 ⟨vA, rfl, OA, jx⟩
      obtain ⟨gA, cA, rfl, hgA⟩ := own_form OA (by omega)
      replace OA := ownS_base OA nc.size
      have hLA : bA ≠ gA := by have := nb_lt2 hA; omega
      replace hA := bb hA jx
      clear hgA
      replace nc := nc.trans (jx.mono nc.size)
      clear jx
      clear hHeld
      refine hK.out _ _ (CS.out _ nc) (fun hHeld => ?_)
      clear hK K
      (try simp only [Act.put, List.setIfInBounds_toArray, List.set_cons_zero, List.set_cons_succ])
      refine wpAnyH_ready (rs := [6]) (by kernel_rfl) (by simp) ?_
      refine AllReadyH.cons (o := { dst := some 16, op := Op.call { callee := Callee.value (Operand.func 50), args := #[Operand.tmp 15, Operand.const (Value.int IntKind.i64 6)], argTypes := #[3, 3] }, type := 30, pos := "ref.go:92", after := #[{ on := 5, ground := Ground.data }, { on := 3, ground := Ground.chain }], guard := none }) rfl (fun K hK => ?_) AllReadyH.nil
      go_simp
      refine (r11put_any tv 6 (by omega) V14).mono ?_
      rintro e V15 ⟨vB, rfl, OB, jx⟩
      obtain ⟨gB, cB, rfl, hgB⟩ := own_form OB (by omega)
      replace OA := ownS_below OA jx
      replace hA := bb hA jx
      clear hgB
      replace nc := nc.trans (jx.mono nc.size)
      clear jx
      clear hHeld
      refine hK.out _ _ (CS.out _ nc) (fun hHeld => ?_)
      clear hK K
      (try simp only [Act.put, List.setIfInBounds_toArray, List.set_cons_zero, List.set_cons_succ])
      refine wpAnyH_ready (rs := [7]) (by kernel_rfl) (by simp) ?_
      refine AllReadyH.cons (o := { dst := some 17, op := Op.call { callee := Callee.builtin Builtin.append, args := #[Operand.tmp 13, Operand.tmp 16], argTypes := #[30, 30] }, type := 30, pos := "ref.go:92", after := #[{ on := 3, ground := Ground.data }, { on := 6, ground := Ground.data }, { on := 6, ground := Ground.chain }], guard := none }) rfl (fun K hK => ?_) AllReadyH.nil
      refine step_append_s _ (by rfl) _ _ _ (by rfl) w1.heap.size 5 i0 (.int .u8 0) 1 1 Try.underlying30 hi hz0 hz1 hz2 rfl (by decide) (.slice (some ⟨gA, 0, none⟩) 6 cA) 6 _ rfl OA ⟨gB, 0, none⟩ 6 cB ((be 6 tv).map (Value.int .u8)) rfl (by simp [be_length]) (OB.cells rfl) (ints_one _) (by omega) (by unfold maxLen; omega) (by omega) nc.size ?_
      intro gX cX V16 OX GX
      replace hA := (GX.block bA (nb_lt2 hA) (by simp only [Value.ownBlock, ne_eq, Option.some.injEq]; exact hLA)).trans hA
      replace nc := nc.grown GX nc.size (fun k hk => (OA.lt k hk).1)
      clear GX OA OB
      clear hHeld
      refine hK.out _ _ (CS.out _ nc) (fun hHeld => ?_)
      clear hK K
      (try simp only [Act.put, List.setIfInBounds_toArray, List.set_cons_zero, List.set_cons_succ])
      refine wpAnyH_ready (rs := [13]) (by kernel_rfl) (by simp) ?_
      refine AllReadyH.cons (o := { dst := some 23, op := Op.call { callee := Callee.builtin Builtin.append, args := #[Operand.tmp 17, Operand.tmp 22], argTypes := #[30, 30] }, type := 30, pos := "ref.go:92", after := #[{ on := 7, ground := Ground.data }, { on := 12, ground := Ground.data }, { on := 7, ground := Ground.chain }], guard := none }) rfl (fun K hK => ?_) AllReadyH.nil
      refine step_append_s _ (by rfl) _ _ _ (by rfl) w1.heap.size 5 i0 (.int .u8 0) 1 1 Try.underlying30 hi hz0 hz1 hz2 rfl (by decide) (.slice (some ⟨gX, 0, none⟩) (6 + 6) cX) (6 + 6) _ rfl OX ⟨bA, 0, none⟩ 1 1 [.int .u8 (sn : Nat)] rfl rfl (one_cell hA) (by simp [Value.oneCell']) (by omega) (by unfold maxLen; omega) (by omega) nc.size ?_
      intro gY cY V17 OY GY
      replace nc := nc.grown GY nc.size (fun k hk => (OX.lt k hk).1)
      clear GY OX hA
      clear hHeld
      refine hK.out _ _ (CS.out _ nc) (fun hHeld => ?_)
      clear hK K
      (try simp only [Act.put, List.setIfInBounds_toArray, List.set_cons_zero, List.set_cons_succ])
      refine wpAnyH_take (i := 14) (oi := { dst := some 4, op := Op.assign (Operand.tmp 23), type := 30, pos := "ref.go:92", after := #[{ on := 13, ground := Ground.data }, { on := 13, ground := Ground.chain }, { on := 0, ground := Ground.phase }, { on := 1, ground := Ground.phase }, { on := 2, ground := Ground.phase }, { on := 3, ground := Ground.phase }, { on := 4, ground := Ground.phase }, { on := 5, ground := Ground.phase }, { on := 6, ground := Ground.phase }, { on := 7, ground := Ground.phase }, { on := 8, ground := Ground.phase }, { on := 9, ground := Ground.phase }, { on := 10, ground := Ground.phase }, { on := 11, ground := Ground.phase }, { on := 12, ground := Ground.phase }, { on := 13, ground := Ground.phase }], guard := none }) (v := ?_) rfl (by kernel_rfl) (by kernel_rfl) (by kernel_rfl) (fun _ _ _ h => h) (Or.inl ⟨by rfl, ?_⟩) (by assumption) ?_
      rotate_left
      · intro w hSw
        (try dsimp only at hSw)
        first | (go_simp; done) | (go_simp; with_reducible rfl)
      (try simp only [Act.put, List.setIfInBounds_toArray, List.set_cons_zero, List.set_cons_succ])
      refine wpAnyH_done (by kernel_rfl) ?_ _
      have HN := Lib.hid (And.intro OY nc)
      clear OY nc CS
      go_wp2_with fail
      go_meet
      refine ⟨?_, HN.out.2⟩
      rw [head_map HK.out.1, HK.out.2.2]
      exact HN.out.1
  obtain ⟨O1, n1⟩ := hcut
  obtain ⟨hd, hhd⟩ : ∃ hd, be 6 (ba + 1) ++ be 6 tv ++ be 1 (rs.length : Int) = hd := ⟨_, rfl⟩
  have HHD := Lib.hid hhd
  rw [hhd] at O1
  have HI := Lib.hid (And.intro O1 n1)
  clear O1 n1 hhd nc h30 h31
  generalize wc = W1 at *
  go_wp2
  go_loopw [4, 5] (fun v i wr => ∃ k : Nat, k ≤ sn ∧ i = .int .i64 (k : Nat) ∧ wr.ownsRow w1.heap.size 5 1 v (13 + 13 * k) ((hd ++ (rs.take k).flatMap rowB).map (Value.int .u8)) ∧ Below w1.heap.size w1 wr) (fun _ i _ => sn - (intOf i).toNat)
  case atStart => exact ⟨0, by omega, rfl, by simpa using HI.out.1, HI.out.2⟩
  case round =>
    obtain ⟨k, hk, rfl, hO, hB⟩ := hrel
    clear HI
    obtain ⟨q0, q1, q2⟩ := CS.out _ hB
    by_cases hlt : k < sn
    · have hk0 : (0 : Int) ≤ (k : Int) := by omega
      have hk1 : (k : Int) < (sn : Int) := by omega
      have hkl : k < rs.length := by rw [HK.out.2.2]; exact hlt
      have hsn := HK.out.1
      have hSR := HSR.out.below (CB2.out _ hB).2
      obtain ⟨bs, off, rfl, hbs⟩ := sr_addr hSR (by omega)
      obtain ⟨c0, c1, c2, c3, c4⟩ := sr_at hSR k hkl
      have hr := HK.out.2.1 (rs[k]?.getD sr0) (by rw [List.getElem?_eq_getElem hkl]; exact List.getElem_mem hkl)
      have hS : (rs.take (k + 1)).flatMap rowB = (rs.take k).flatMap rowB ++ rowB (rs[k]?.getD sr0) := by
        rw [List.take_add_one, List.flatMap_append, List.getElem?_eq_getElem hkl]
        simp only [Option.toList_some, Option.getD_some, List.flatMap_cons, List.flatMap_nil, List.append_nil]
      generalize rs[k]?.getD sr0 = r at *
      obtain ⟨z, u0, u1, u2, u3⟩ := r
      simp only at c0 c1 c2 c3 c4 hr
      have hg := rgt_iff.1 (show rgt u0 u1 u2 u3 = true from hr.2)
      have h1 : IntKind.u8.wrap z = z := IntWalk.u8_in _ (by omega)
      have h2 : IntKind.i64.wrap (u0 + 1) = u0 + 1 := IntWalk.i64_in _ (by omega)
      have h3 : IntKind.u8.wrap (u0 + 1) = u0 + 1 := IntWalk.u8_in _ (by omega)
      have h4 : IntKind.i64.wrap (u1 + 1) = u1 + 1 := IntWalk.i64_in _ (by omega)
      have h5 : IntKind.u8.wrap (u1 + 1) = u1 + 1 := IntWalk.u8_in _ (by omega)
      have hrow : rowB (z, u0, u1, u2, u3) = [z, u0 + 1, u1 + 1] ++ be 4 u2 ++ be 6 u3 := by
        unfold rowB
        rw [be_lt z (by omega), be_lt (u0 + 1) (by omega), be_lt (u1 + 1) (by omega)]
        simp
      have HS := Lib.hid (hS.trans (by rw [hrow]))
      have hX := heap_alloc_new wr (.cells #[.int .i64 0, .int .i64 0, .int .i64 0, .int .i64 0, .int .i64 0] 63)
      obtain ⟨z0, z1, z2, z3, z4⟩ := sr_cells _ _ _ _ _ hX
      have f0 := sh_frozen hX 0
      have f1 := sh_frozen hX 1
      have f2 := sh_frozen hX 2
      have f3 := sh_frozen hX 3
      have f4 := sh_frozen hX 4
      have hY := heap_alloc_new wr (.cells #[.int .i64 z, .int .i64 u0, .int .i64 u1, .int .i64 u2, .int .i64 u3] 63)
      have O2 := hO.alloc (.cells #[.int .i64 z, .int .i64 u0, .int .i64 u1, .int .i64 u2, .int .i64 u3] 63)
      have B2 := hB.alloc hB.size (.cells #[.int .i64 z, .int .i64 u0, .int .i64 u1, .int .i64 u2, .int .i64 u3] 63)
      have HA := Lib.hid (And.intro hY (And.intro O2 B2))
      clear hX hY O2 B2 hO hB hS hrow hr hg hSR hbs
      go_upto_region 8 with fail
      clear z0 z1 z2 z3 z4 f0 f1 f2 f3 f4 c0 c1 c2 c3 c4 q0 q1 q2
      obtain ⟨hY, O2, B2⟩ := HA.out
      clear HA
      generalize wr.alloc (.cells #[.int .i64 z, .int .i64 u0, .int .i64 u1, .int .i64 u2, .int .i64 u3] 63) = W2 at *
      generalize wr.heap.size = br at *
      obtain ⟨y0, y1, y2, y3, y4⟩ := sr_cells _ _ _ _ _ hY
      go_wp2_with (at_builtin; refine wpList_append_own _ rfl _ _ 30 rfl w1.heap.size 5 i0 (.int .u8 0) 1 1 Try.underlying30 hi hz0 hz1 hz2 rfl (by decide) _ _ _ rfl (O2.alloc _) ⟨W2.heap.size, 0, none⟩ 3 3 [.int .u8 z, .int .u8 (u0 + 1), .int .u8 (u1 + 1)] rfl rfl (three_cells _ _ _ _ _) (by simp [Value.oneCell']) (by unfold maxLen; omega) (by omega) (by have := B2.size; simp; omega) ?_; intro v' w3 O3 G3 _)
      have hY3 := keepT_grown (ts := [63]) O2 (by decide) G3 br _ _ _ (by simp) hY
      have B3 := (B2.alloc B2.size (.cells #[.int .u8 z, .int .u8 (u0 + 1), .int .u8 (u1 + 1)] 5)).grown G3 (by have := B2.size; simp; omega) (fun j hj => (O2.lt j hj).1)
      obtain ⟨g3, c3, rfl, hg3⟩ := own_form O3 (by omega)
      have hV : w3.drew.heap[br]? = some (.cells #[.int .i64 z, .int .i64 u0, .int .i64 u1, .int .i64 u2, .int .i64 u3] 63 (0, 0)) := hY3
      have O4 : w3.drew.ownsRow w1.heap.size 5 1 (.slice (some ⟨g3, 0, none⟩) (13 + 13 * k + 3) c3) (13 + 13 * k + 3) ((hd ++ (rs.take k).flatMap rowB).map (Value.int .u8) ++ [.int .u8 z, .int .u8 (u0 + 1), .int .u8 (u1 + 1)]) := O3
      have nc : Below w1.heap.size w1 w3.drew := B3.drew
      clear y0 y1 y2 y3 y4 hY hY3 O2 O3 B2 B3 G3 hg3 h1 h2 h3 h4 h5
      refine wp_region_held_drew (S := fun W => W.cell? ⟨br, 3, none⟩ = some (.int .i64 u2) ∧ W.cell? ⟨br, 4, none⟩ = some (.int .i64 u3)) (by kernel_rfl) ⟨(sr_cells _ _ _ _ _ hV).2.2.2.1, (sr_cells _ _ _ _ _ hV).2.2.2.2⟩ (fun hHeld => ?_)
      generalize w3.drew = V0 at *
      refine wpAnyH_take (i := 0) (oi := { dst := some 52, op := Op.move (Operand.tmp 4), type := 30, pos := "ref.go:96", after := #[], guard := none }) (v := ?_) rfl (by kernel_rfl) (by kernel_rfl) (by kernel_rfl) (fun _ _ _ h => h) (Or.inl ⟨by rfl, ?_⟩) (by assumption) ?_
      rotate_left
      · intro w hSw
        (try dsimp only at hSw)
        first | (go_simp; done) | (go_simp; with_reducible rfl)
      (try simp only [Act.put, List.setIfInBounds_toArray, List.set_cons_zero, List.set_cons_succ])
      refine wpAnyH_take (i := 1) (oi := { dst := some 53, op := Op.fieldAddr 63 (Operand.tmp 6) 1, type := 0, pos := "ref.go:96", after := #[], guard := none }) (v := ?_) rfl (by kernel_rfl) (by kernel_rfl) (by kernel_rfl) (fun _ _ _ h => h) (Or.inl ⟨by rfl, ?_⟩) (by assumption) ?_
      rotate_left
      · intro w hSw
        (try dsimp only at hSw)
        first | (go_simp; done) | (go_simp; with_reducible rfl)
      (try simp only [Act.put, List.setIfInBounds_toArray, List.set_cons_zero, List.set_cons_succ])
      refine wpAnyH_take (i := 2) (oi := { dst := some 54, op := Op.fieldAddr 23 (Operand.tmp 53) 2, type := 0, pos := "ref.go:96", after := #[{ on := 1, ground := Ground.data }], guard := none }) (v := ?_) rfl (by kernel_rfl) (by kernel_rfl) (by kernel_rfl) (fun _ _ _ h => h) (Or.inl ⟨by rfl, ?_⟩) (by assumption) ?_
      rotate_left
      · intro w hSw
        (try dsimp only at hSw)
        first | (go_simp; done) | (go_simp; with_reducible rfl)
      (try simp only [Act.put, List.setIfInBounds_toArray, List.set_cons_zero, List.set_cons_succ])
      refine wpAnyH_take (i := 3) (oi := { dst := some 55, op := Op.load 3 (Operand.tmp 54), type := 3, pos := "ref.go:96", after := #[{ on := 2, ground := Ground.data }], guard := none }) (v := ?_) rfl (by kernel_rfl) (by kernel_rfl) (by kernel_rfl) (fun _ _ _ h => h) (Or.inl ⟨by rfl, ?_⟩) (by assumption) ?_
      rotate_left
      · intro w hSw
        (try dsimp only at hSw)
        first | (go_simp; done) | (go_simp; with_reducible rfl)
      (try simp only [Act.put, List.setIfInBounds_toArray, List.set_cons_zero, List.set_cons_succ])
      refine wpAnyH_take (i := 6) (oi := { dst := some 58, op := Op.fieldAddr 63 (Operand.tmp 6) 1, type := 0, pos := "ref.go:96", after := #[], guard := none }) (v := ?_) rfl (by kernel_rfl) (by kernel_rfl) (by kernel_rfl) (fun _ _ _ h => h) (Or.inl ⟨by rfl, ?_⟩) (by assumption) ?_
      rotate_left
      · intro w hSw
        (try dsimp only at hSw)
        first | (go_simp; done) | (go_simp; with_reducible rfl)
      (try simp only [Act.put, List.setIfInBounds_toArray, List.set_cons_zero, List.set_cons_succ])
      refine wpAnyH_take (i := 7) (oi := { dst := some 59, op := Op.fieldAddr 23 (Operand.tmp 58) 3, type := 0, pos := "ref.go:96", after := #[{ on := 6, ground := Ground.data }], guard := none }) (v := ?_) rfl (by kernel_rfl) (by kernel_rfl) (by kernel_rfl) (fun _ _ _ h => h) (Or.inl ⟨by rfl, ?_⟩) (by assumption) ?_
      rotate_left
      · intro w hSw
        (try dsimp only at hSw)
        first | (go_simp; done) | (go_simp; with_reducible rfl)
      (try simp only [Act.put, List.setIfInBounds_toArray, List.set_cons_zero, List.set_cons_succ])
      refine wpAnyH_take (i := 8) (oi := { dst := some 60, op := Op.load 3 (Operand.tmp 59), type := 3, pos := "ref.go:96", after := #[{ on := 7, ground := Ground.data }], guard := none }) (v := ?_) rfl (by kernel_rfl) (by kernel_rfl) (by kernel_rfl) (fun _ _ _ h => h) (Or.inl ⟨by rfl, ?_⟩) (by assumption) ?_
      rotate_left
      · intro w hSw
        (try dsimp only at hSw)
        first | (go_simp; done) | (go_simp; with_reducible rfl)
      (try simp only [Act.put, List.setIfInBounds_toArray, List.set_cons_zero, List.set_cons_succ])
      refine wpAnyH_ready (rs := [4]) (by kernel_rfl) (by simp) ?_
      refine AllReadyH.cons (o := { dst := some 56, op := Op.call { callee := Callee.value (Operand.func 50), args := #[Operand.tmp 55, Operand.const (Value.int IntKind.i64 4)], argTypes := #[3, 3] }, type := 30, pos := "ref.go:96", after := #[{ on := 3, ground := Ground.data }], guard := none }) rfl (fun K hK => ?_) AllReadyH.nil
      go_simp
      refine (r11put_any u2 4 (by omega) _).mono ?_
      rintro e x4 ⟨vP, rfl, OP, jx⟩
      obtain ⟨gP, cP, rfl, hgP⟩ := own_form OP (by omega)
      replace hV := bb hV jx
      replace O4 := ownS_below O4 jx
      replace nc := nc.trans (jx.mono nc.size)
      clear jx hgP
      refine hK.out _ _ ⟨(sr_cells _ _ _ _ _ hV).2.2.2.1, (sr_cells _ _ _ _ _ hV).2.2.2.2⟩ (fun hHeld => ?_)
      clear hK K
      (try simp only [Act.put, List.setIfInBounds_toArray, List.set_cons_zero, List.set_cons_succ])
      refine wpAnyH_ready (rs := [5]) (by kernel_rfl) (by simp) ?_
      refine AllReadyH.cons (o := { dst := some 57, op := Op.call { callee := Callee.builtin Builtin.append, args := #[Operand.tmp 52, Operand.tmp 56], argTypes := #[30, 30] }, type := 30, pos := "ref.go:96", after := #[{ on := 0, ground := Ground.data }, { on := 4, ground := Ground.data }, { on := 4, ground := Ground.chain }], guard := none }) rfl (fun K hK => ?_) AllReadyH.nil
      refine step_append_s _ (by rfl) _ _ _ (by rfl) w1.heap.size 5 i0 (.int .u8 0) 1 1 Try.underlying30 hi hz0 hz1 hz2 rfl (by decide) (.slice (some ⟨g3, 0, none⟩) (13 + 13 * k + 3) c3) (13 + 13 * k + 3) _ rfl O4 ⟨gP, 0, none⟩ 4 cP ((be 4 u2).map (Value.int .u8)) rfl (by simp [be_length]) (OP.cells rfl) (ints_one _) (by omega) (by unfold maxLen; omega) (by omega) nc.size ?_
      intro g5 cg5 x5 O9 G9
      replace hV := kept_other O4 G9 hV (by decide)
      replace nc := nc.grown G9 nc.size (fun j hj => (O4.lt j hj).1)
      replace O4 := O9
      clear O9 G9 OP
      refine hK.out _ _ ⟨(sr_cells _ _ _ _ _ hV).2.2.2.1, (sr_cells _ _ _ _ _ hV).2.2.2.2⟩ (fun hHeld => ?_)
      clear hK K
      (try simp only [Act.put, List.setIfInBounds_toArray, List.set_cons_zero, List.set_cons_succ])
      refine wpAnyH_ready (rs := [9]) (by kernel_rfl) (by simp) ?_
      refine AllReadyH.cons (o := { dst := some 61, op := Op.call { callee := Callee.value (Operand.func 50), args := #[Operand.tmp 60, Operand.const (Value.int IntKind.i64 6)], argTypes := #[3, 3] }, type := 30, pos := "ref.go:96", after := #[{ on := 8, ground := Ground.data }, { on := 5, ground := Ground.chain }], guard := none }) rfl (fun K hK => ?_) AllReadyH.nil
      go_simp
      refine (r11put_any u3 6 (by omega) _).mono ?_
      rintro e x9 ⟨vP, rfl, OP, jx⟩
      obtain ⟨gP, cP, rfl, hgP⟩ := own_form OP (by omega)
      replace hV := bb hV jx
      replace O4 := ownS_below O4 jx
      replace nc := nc.trans (jx.mono nc.size)
      clear jx hgP
      refine hK.out _ _ ⟨(sr_cells _ _ _ _ _ hV).2.2.2.1, (sr_cells _ _ _ _ _ hV).2.2.2.2⟩ (fun hHeld => ?_)
      clear hK K
      (try simp only [Act.put, List.setIfInBounds_toArray, List.set_cons_zero, List.set_cons_succ])
      refine wpAnyH_ready (rs := [10]) (by kernel_rfl) (by simp) ?_
      refine AllReadyH.cons (o := { dst := some 62, op := Op.call { callee := Callee.builtin Builtin.append, args := #[Operand.tmp 57, Operand.tmp 61], argTypes := #[30, 30] }, type := 30, pos := "ref.go:96", after := #[{ on := 5, ground := Ground.data }, { on := 9, ground := Ground.data }, { on := 9, ground := Ground.chain }], guard := none }) rfl (fun K hK => ?_) AllReadyH.nil
      refine step_append_s _ (by rfl) _ _ _ (by rfl) w1.heap.size 5 i0 (.int .u8 0) 1 1 Try.underlying30 hi hz0 hz1 hz2 rfl (by decide) (.slice (some ⟨g5, 0, none⟩) (13 + 13 * k + 3 + 4) cg5) (13 + 13 * k + 3 + 4) _ rfl O4 ⟨gP, 0, none⟩ 6 cP ((be 6 u3).map (Value.int .u8)) rfl (by simp [be_length]) (OP.cells rfl) (ints_one _) (by omega) (by unfold maxLen; omega) (by omega) nc.size ?_
      intro g10 cg10 x10 O9 G9
      replace hV := kept_other O4 G9 hV (by decide)
      replace nc := nc.grown G9 nc.size (fun j hj => (O4.lt j hj).1)
      replace O4 := O9
      clear O9 G9 OP
      refine hK.out _ _ ⟨(sr_cells _ _ _ _ _ hV).2.2.2.1, (sr_cells _ _ _ _ _ hV).2.2.2.2⟩ (fun hHeld => ?_)
      clear hK K
      (try simp only [Act.put, List.setIfInBounds_toArray, List.set_cons_zero, List.set_cons_succ])
      refine wpAnyH_take (i := 11) (oi := { dst := some 4, op := Op.assign (Operand.tmp 62), type := 30, pos := "ref.go:96", after := #[{ on := 10, ground := Ground.data }, { on := 10, ground := Ground.chain }, { on := 0, ground := Ground.phase }, { on := 1, ground := Ground.phase }, { on := 2, ground := Ground.phase }, { on := 3, ground := Ground.phase }, { on := 4, ground := Ground.phase }, { on := 5, ground := Ground.phase }, { on := 6, ground := Ground.phase }, { on := 7, ground := Ground.phase }, { on := 8, ground := Ground.phase }, { on := 9, ground := Ground.phase }, { on := 10, ground := Ground.phase }], guard := none }) (v := ?_) rfl (by kernel_rfl) (by kernel_rfl) (by kernel_rfl) (fun _ _ _ h => h) (Or.inl ⟨by rfl, ?_⟩) (by assumption) ?_
      rotate_left
      · intro w hSw
        (try dsimp only at hSw)
        first | (go_simp; done) | (go_simp; with_reducible rfl)
      (try simp only [Act.put, List.setIfInBounds_toArray, List.set_cons_zero, List.set_cons_succ])
      refine wpAnyH_done (by kernel_rfl) ?_ _
      have HO := Lib.hid (And.intro O4 nc)
      clear O4 nc hV
      go_wp2
      go_roundw
      case rel =>
        refine ⟨k + 1, by omega, by go_num, ?_, HO.out.2⟩
        have e1 : 13 + 13 * (k + 1) = 13 + 13 * k + 3 + 4 + 6 := by omega
        have e2 : (hd ++ (rs.take (k + 1)).flatMap rowB).map (Value.int .u8) = (hd ++ (rs.take k).flatMap rowB).map (Value.int .u8) ++ [.int .u8 z, .int .u8 (u0 + 1), .int .u8 (u1 + 1)] ++ (be 4 u2).map (Value.int .u8) ++ (be 6 u3).map (Value.int .u8) := by
          rw [HS.out]
          simp
        rw [e1, e2]
        exact HO.out.1
      case measure => simp [intOf]; omega
    · obtain rfl : k = sn := by omega
      rw [show rs.take k = rs from List.take_of_length_le (by rw [HK.out.2.2]; exact Nat.le_refl _)] at hO
      have HX := Lib.hid (CB2.out _ hB).2
      have HO := Lib.hid hO
      have hsz := (CB2.out _ (Below.refl _ _)).2.size
      have HSZ := Lib.hid hsz
      clear hO hB hsz
      go_wp2
      refine bodyPost_ret (results_tmp2 rfl _ _ _) rfl ⟨u4, ?_, ?_, HX.out⟩
      · rw [HHB.out.2]
        rfl
      · rw [HHB.out.1, show shB ba tv rs = hd ++ rs.flatMap rowB by rw [← HHD.out]; rfl]
        have := ownS_base HO.out HSZ.out
        rw [← show (hd ++ rs.flatMap rowB).length = 13 + 13 * k by rw [← HHD.out, List.length_append, flat_len, HK.out.2.2]; simp [be_length]] at this
        exact this
end Go.Proofs.Ythgoopdekllanaa

/- The sheet of bytes: the document's Take. -/
namespace Go.Proofs.Ythgoopdekllanaa
open Go.RowKit Go.Shelf
open SumM

attribute [local go_sem] Oper.semAt_some guard_undef

theorem num6_in {l : List Int} (h : In 255 l) (hl : l.length ≤ 6) : 0 ≤ numOf l ∧ numOf l < 281474976710656 := by
  have h1 := numOf_in l h
  generalize l.length = L at h1 hl
  have : L = 0 ∨ L = 1 ∨ L = 2 ∨ L = 3 ∨ L = 4 ∨ L = 5 ∨ L = 6 := by omega
  rcases this with rfl | rfl | rfl | rfl | rfl | rfl | rfl <;> simp at h1 <;> omega
theorem tk_def (bs : List Int) : tkS bs = if bs.length < 13 then (0, 0, [], 61) else
  if bs.length < 13 + 13 * (hv bs 2).toNat then (0, 0, [], 61) else
  if 13 + 13 * (hv bs 2).toNat < bs.length then (0, 0, [], 60) else
  if shOk (hv bs 0) (hv bs 1) (rowsOf (hv bs 2).toNat (bs.drop 13)) = true then (hv bs 0, hv bs 1, rowsOf (hv bs 2).toNat (bs.drop 13), 0) else (0, 0, [], 60) := rfl

set_option maxRecDepth 100000 in
set_option maxHeartbeats 8000000 in
theorem r11Take_any (a : Option Addr) (len cap : Nat) (bs : List Int) (hl : bs.length = len) (hlc : len ≤ cap) (hs : len ≤ 10000) (w : World) (h : Row .u8 w.heap.size w a bs) : Calls Try.prog 18 #[.slice a len cap] w (ShRet (tkS bs) w) := by
  have hi := row_in h
  have bR := heap_alloc_new w (.cells #[.int .i64 0, .int .i64 0, .slice none 0 0] 29)
  have L0 := (Below.refl w.heap.size w).alloc (Nat.le_refl _) (.cells #[.int .i64 0, .int .i64 0, .slice none 0 0] 29)
  obtain ⟨y0, y1, y2⟩ := sh_cells _ _ _ _ _ bR
  have f0 := sh_frozen bR 0
  have f1 := sh_frozen bR 1
  have f3 := sh_frozen bR 2
  go_enter Try.func18, Try.ntmps18
  go_upto_region 1 with fail
  generalize w.alloc (.cells #[.int .i64 0, .int .i64 0, .slice none 0 0] 29) = W0 at *
  have HR := Lib.hid bR
  have HX := Lib.hid L0
  have HROW := Lib.hid h
  have hdef := tk_def bs
  rw [hl] at hdef
  by_cases hb1 : len < 13
  · have p1 : decide ((len : Int) < 13) = true := decide_eq_true (by omega)
    rw [if_pos hb1] at hdef
    have HD := Lib.hid hdef
    clear hdef bR L0 h
    go_wp2
    refine bodyPost_ret (results_sh2 rfl _ _ w.heap.size _ (0, 0) rfl (full_setCells HR.out [.int .i64 0, .int .i64 0, .slice none 0 0] rfl) rfl) rfl ?_
    rw [HD.out]
    exact ⟨_, rfl, World.ownsRow_nil _ _ _ _, below_setCells w.heap.size (Nat.le_refl _) [.int .i64 0, .int .i64 0, .slice none 0 0] 0 w _ HX.out⟩
  have p1 : decide ((len : Int) < 13) = false := decide_eq_false (by omega)
  rw [if_neg hb1] at hdef
  obtain ⟨ab, off, rfl, hab, hc⟩ := h.2 (by omega)
  have q12 : W0.cell? ⟨ab, off + 12, none⟩ = some (.int .u8 (bs[12]?.getD 0)) := (L0.cell hab).trans (hc 12 (by omega))
  rw [hv2 (by omega)] at hdef
  have h12 : (0 : Int) ≤ bs[12]?.getD 0 ∧ bs[12]?.getD 0 ≤ (255 : Int) := by
    rw [List.getElem?_eq_getElem (by omega)]
    exact hi _ (List.getElem_mem _)
  obtain ⟨n, hn⟩ : ∃ n : Nat, bs[12]?.getD 0 = (n : Int) := ⟨(bs[12]?.getD 0).toNat, by omega⟩
  rw [hn] at q12 h12 hdef
  simp only [Int.toNat_natCast] at hdef
  have k0 : (12 : Int) < (len : Int) := by omega
  have k1 : IntKind.i64.wrap (n : Int) = n := IntWalk.i64_in _ (by omega)
  have k2 : IntKind.i64.wrap (13 * (n : Int)) = 13 * (n : Int) := IntWalk.i64_in _ (by omega)
  have k3 : IntKind.i64.wrap (13 + 13 * (n : Int)) = 13 + 13 * (n : Int) := IntWalk.i64_in _ (by omega)
  clear hc bR L0 h
  by_cases hb2 : len < 13 + 13 * n
  · have p2 : decide ((len : Int) < 13 + 13 * (n : Int)) = true := decide_eq_true (by omega)
    rw [if_pos hb2] at hdef
    have HD := Lib.hid hdef
    clear hdef
    go_wp2
    refine bodyPost_ret (results_sh2 rfl _ _ w.heap.size _ (0, 0) rfl (full_setCells HR.out [.int .i64 0, .int .i64 0, .slice none 0 0] rfl) rfl) rfl ?_
    rw [HD.out]
    exact ⟨_, rfl, World.ownsRow_nil _ _ _ _, below_setCells w.heap.size (Nat.le_refl _) [.int .i64 0, .int .i64 0, .slice none 0 0] 0 w _ HX.out⟩
  have p2 : decide ((len : Int) < 13 + 13 * (n : Int)) = false := decide_eq_false (by omega)
  rw [if_neg hb2] at hdef
  by_cases hb3 : 13 + 13 * n < len
  · have p3 : decide (13 + 13 * (n : Int) < (len : Int)) = true := decide_eq_true (by omega)
    rw [if_pos hb3] at hdef
    have HD := Lib.hid hdef
    clear hdef
    go_wp2
    refine bodyPost_ret (results_sh2 rfl _ _ w.heap.size _ (0, 0) rfl (full_setCells HR.out [.int .i64 0, .int .i64 0, .slice none 0 0] rfl) rfl) rfl ?_
    rw [HD.out]
    exact ⟨_, rfl, World.ownsRow_nil _ _ _ _, below_setCells w.heap.size (Nat.le_refl _) [.int .i64 0, .int .i64 0, .slice none 0 0] 0 w _ HX.out⟩
  have p3 : decide (13 + 13 * (n : Int) < (len : Int)) = false := decide_eq_false (by omega)
  rw [if_neg hb3] at hdef
  have hlen : len = 13 + 13 * n := by omega
  have HD := Lib.hid hdef
  have HL := Lib.hid (And.intro hlen (And.intro hl (And.intro (show n ≤ 255 by omega) hi)))
  clear hdef hb1 hb2 hb3 hi
  go_upto_region 5 with fail
  clear p1 p2 p3 k1 k2 k3 q12 y0 y1 y2 f0 f1 f3
  have HV := Lib.hid (show (numOf ((bs.drop 0).take 6) = hv bs 0 + 1 ∧ numOf ((bs.drop 6).take 6) = hv bs 1) ∧ (0 ≤ hv bs 0 + 1 ∧ hv bs 0 + 1 < 281474976710656) by
    have e0 : hv bs 0 = numOf ((bs.drop 0).take 6) - 1 := rfl
    have e1 : hv bs 1 = numOf ((bs.drop 6).take 6) - 0 := rfl
    have b0 := num6_in (l := (bs.drop 0).take 6) (fun x hx => HL.out.2.2.2 x (List.mem_of_mem_drop (List.mem_of_mem_take hx))) (by simp; omega)
    have b1 := num6_in (l := (bs.drop 6).take 6) (fun x hx => HL.out.2.2.2 x (List.mem_of_mem_drop (List.mem_of_mem_take hx))) (by simp; omega)
    refine ⟨⟨by omega, by omega⟩, by omega, by omega⟩)
  obtain ⟨ba, hba⟩ : ∃ x, hv bs 0 = x := ⟨_, rfl⟩
  obtain ⟨tv, htv⟩ : ∃ x, hv bs 1 = x := ⟨_, rfl⟩
  rw [hba, htv] at HV HD
  have h35 : IntKind.i64.wrap ba = ba := IntWalk.i64_in _ (by have := HV.out.2; omega)
  have RW := Lib.hid (fun W (m : Below W0.heap.size W0 W) => ((HROW.out.below HX.out).more HX.out.size).below m)
  have KA := Lib.hid (fun W (m : Below W0.heap.size W0 W) => HV.out.1.1 ▸ r11take_any (some ⟨ab, off, none⟩) 6 cap ((bs.drop 0).take 6) (by simp; omega) (by omega) (fun x hx => HL.out.2.2.2 x (List.mem_of_mem_drop (List.mem_of_mem_take hx))) W (((RW.out W m).more m.size).take 6))
  have KB := Lib.hid (fun W (m : Below W0.heap.size W0 W) => HV.out.1.2 ▸ r11take_any (some ⟨ab, off + 6, none⟩) 6 (cap - 6) ((bs.drop 6).take 6) (by simp; omega) (by omega) (fun x hx => HL.out.2.2.2 x (List.mem_of_mem_drop (List.mem_of_mem_take hx))) W ((((RW.out W m).more m.size).drop 6).take 6))
  have hl1 : (6 : Int) ≤ (cap : Int) := by omega
  have hl2 : (12 : Int) ≤ (cap : Int) := by omega
  have hc6 : ¬ cap = 6 := by omega
  clear hba htv
  go_cut [4] from 5 (fun p wx => ∃ m, p = .pointer (some ⟨m, 0, none⟩) ∧ W0.heap.size ≤ m ∧ wx.heap[m]? = some (.cells #[.int .i64 ba, .int .i64 tv, .slice none 0 0] 29 (0, 0)) ∧ Below W0.heap.size W0 wx)
  case first =>
    have nc := (Below.refl W0.heap.size W0).drew
    have CS := Lib.hid (fun W (_ : Below W0.heap.size W0 W) => (trivial : (fun _ : World => True) W))
    refine wp_region_held_drew (S := fun W => True) (by kernel_rfl) trivial (fun hHeld => ?_)
    generalize W0.drew = V0 at *
    refine wpAnyH_take (i := 0) (oi := { dst := some 32, op := Op.move (Operand.tmp 0), type := 30, pos := "ref.go:109", after := #[], guard := none }) (v := ?_) rfl (by kernel_rfl) (by kernel_rfl) (by kernel_rfl) (fun _ _ _ h => h) (Or.inl ⟨by rfl, ?_⟩) (by assumption) ?_
    rotate_left
    · intro w hSw
      (try dsimp only at hSw)
      first | (go_simp; done) | (go_simp; with_reducible rfl)
    (try simp only [Act.put, List.setIfInBounds_toArray, List.set_cons_zero, List.set_cons_succ])
    refine wpAnyH_take (i := 1) (oi := { dst := some 33, op := Op.slice 30 (Operand.tmp 32) (some (Operand.const (Value.int IntKind.i64 0))) (some (Operand.const (Value.int IntKind.i64 6))) none, type := 30, pos := "ref.go:109", after := #[{ on := 0, ground := Ground.data }], guard := none }) (v := ?_) rfl (by kernel_rfl) (by kernel_rfl) (by kernel_rfl) (fun _ _ _ h => h) (Or.inl ⟨by rfl, ?_⟩) (by assumption) ?_
    rotate_left
    · intro w hSw
      (try dsimp only at hSw)
      first | (go_simp; done) | (go_simp; with_reducible rfl)
    (try simp only [Act.put, List.setIfInBounds_toArray, List.set_cons_zero, List.set_cons_succ])
    refine wpAnyH_take (i := 4) (oi := { dst := some 36, op := Op.move (Operand.tmp 0), type := 30, pos := "ref.go:109", after := #[], guard := none }) (v := ?_) rfl (by kernel_rfl) (by kernel_rfl) (by kernel_rfl) (fun _ _ _ h => h) (Or.inl ⟨by rfl, ?_⟩) (by assumption) ?_
    rotate_left
    · intro w hSw
      (try dsimp only at hSw)
      first | (go_simp; done) | (go_simp; with_reducible rfl)
    (try simp only [Act.put, List.setIfInBounds_toArray, List.set_cons_zero, List.set_cons_succ])
    refine wpAnyH_take (i := 5) (oi := { dst := some 37, op := Op.slice 30 (Operand.tmp 36) (some (Operand.const (Value.int IntKind.i64 6))) (some (Operand.const (Value.int IntKind.i64 12))) none, type := 30, pos := "ref.go:109", after := #[{ on := 4, ground := Ground.data }], guard := none }) (v := ?_) rfl (by kernel_rfl) (by kernel_rfl) (by kernel_rfl) (fun _ _ _ h => h) (Or.inl ⟨by rfl, ?_⟩) (by assumption) ?_
    rotate_left
    · intro w hSw
      (try dsimp only at hSw)
      first | (go_simp; done) | (go_simp; with_reducible rfl)
    (try simp only [Act.put, List.setIfInBounds_toArray, List.set_cons_zero, List.set_cons_succ])
    refine wpAnyH_ready (rs := [2, 8]) (by kernel_rfl) (by simp) ?_
    refine AllReadyH.cons (o := { dst := some 34, op := Op.call { callee := Callee.value (Operand.func 53), args := #[Operand.tmp 33], argTypes := #[30] }, type := 3, pos := "ref.go:109", after := #[{ on := 1, ground := Ground.data }], guard := none }) rfl (fun K hK => ?_) (AllReadyH.cons (o := { dst := some 4, op := Op.alloc 29, type := 0, pos := "ref.go:109", after := #[], guard := none }) rfl (fun K hK => ?_) AllReadyH.nil)
    · skip
      go_simp
      refine (KA.out V0 nc).mono ?_
      rintro e V1 ⟨rfl, jx⟩
      replace nc := nc.trans (jx.mono nc.size)
      clear jx
      clear hHeld
      refine hK.out _ _ trivial (fun hHeld => ?_)
      clear hK K
      (try simp only [Act.put, List.setIfInBounds_toArray, List.set_cons_zero, List.set_cons_succ])
      refine wpAnyH_take (i := 3) (oi := { dst := some 35, op := Op.binOp BinOp.sub 3 (Operand.tmp 34) (Operand.const (Value.int IntKind.i64 1)) 3, type := 3, pos := "ref.go:109", after := #[{ on := 2, ground := Ground.data }], guard := none }) (v := ?_) rfl (by kernel_rfl) (by kernel_rfl) (by kernel_rfl) (fun _ _ _ h => h) (Or.inl ⟨by rfl, ?_⟩) (by assumption) ?_
      rotate_left
      · intro w hSw
        (try dsimp only at hSw)
        first | (go_simp; done) | (go_simp; with_reducible rfl)
      (try simp only [Act.put, List.setIfInBounds_toArray, List.set_cons_zero, List.set_cons_succ])
      refine wpAnyH_ready (rs := [6, 8]) (by kernel_rfl) (by simp) ?_
      refine AllReadyH.cons (o := { dst := some 38, op := Op.call { callee := Callee.value (Operand.func 53), args := #[Operand.tmp 37], argTypes := #[30] }, type := 3, pos := "ref.go:109", after := #[{ on := 5, ground := Ground.data }, { on := 2, ground := Ground.chain }], guard := none }) rfl (fun K hK => ?_) (AllReadyH.cons (o := { dst := some 4, op := Op.alloc 29, type := 0, pos := "ref.go:109", after := #[], guard := none }) rfl (fun K hK => ?_) AllReadyH.nil)
      · skip
        go_simp
        refine (KB.out V1 nc).mono ?_
        rintro e V2 ⟨rfl, jx⟩
        replace nc := nc.trans (jx.mono nc.size)
        clear jx
        clear hHeld
        refine hK.out _ _ trivial (fun hHeld => ?_)
        clear hK K
        (try simp only [Act.put, List.setIfInBounds_toArray, List.set_cons_zero, List.set_cons_succ])
        refine wpAnyH_take (i := 7) (oi := { dst := some 39, op := Op.build 29 #[(0, Operand.tmp 35), (1, Operand.tmp 38)], type := 29, pos := "ref.go:109", after := #[{ on := 3, ground := Ground.data }, { on := 6, ground := Ground.data }], guard := none }) (v := ?_) rfl (by kernel_rfl) (by kernel_rfl) (by kernel_rfl) (fun _ _ _ h => h) (Or.inl ⟨by rfl, ?_⟩) (by assumption) ?_
        rotate_left
        · intro w hSw
          (try dsimp only at hSw)
          first | (go_simp; done) | (go_simp; with_reducible rfl)
        (try simp only [Act.put, List.setIfInBounds_toArray, List.set_cons_zero, List.set_cons_succ])
        refine wpAnyH_ready (rs := [8]) (by kernel_rfl) (by simp) ?_
        refine AllReadyH.cons (o := { dst := some 4, op := Op.alloc 29, type := 0, pos := "ref.go:109", after := #[], guard := none }) rfl (fun K hK => ?_) AllReadyH.nil
        go_simp
        have hA := heap_alloc_new V2 (.cells #[.int .i64 0, .int .i64 0, .slice none 0 0] 29)
        have hAb := nc.size
        replace nc := nc.alloc nc.size (.cells #[.int .i64 0, .int .i64 0, .slice none 0 0] 29)
        clear hHeld
        refine hK.out _ _ trivial (fun hHeld => ?_)
        clear hK K
        (try simp only [Act.put, List.setIfInBounds_toArray, List.set_cons_zero, List.set_cons_succ])
        generalize V2.alloc (.cells #[.int .i64 0, .int .i64 0, .slice none 0 0] 29) = V3 at *
        generalize V2.heap.size = bA at *
        obtain ⟨z0, z1, z2⟩ := sh_cells _ _ _ _ _ hA
        have f0 := sh_frozen hA 0
        have f1 := sh_frozen hA 1
        have f2 := sh_frozen hA 2
        have nc9 := below_setCells bA hAb [.int .i64 ba, .int .i64 tv, .slice none 0 0] 0 _ _ nc
        have HA9 := Lib.hid (full_setCells hA [.int .i64 ba, .int .i64 tv, .slice none 0 0] rfl)
        refine wpAnyH_ready (rs := [9]) (by kernel_rfl) (by simp) ?_
        refine AllReadyH.cons (o := { dst := none, op := Op.store 29 (Operand.tmp 4) (Operand.tmp 39), type := 0, pos := "ref.go:109", after := #[{ on := 8, ground := Ground.data }, { on := 7, ground := Ground.data }, { on := 6, ground := Ground.chain }, { on := 0, ground := Ground.phase }, { on := 1, ground := Ground.phase }, { on := 2, ground := Ground.phase }, { on := 3, ground := Ground.phase }, { on := 4, ground := Ground.phase }, { on := 5, ground := Ground.phase }, { on := 6, ground := Ground.phase }, { on := 7, ground := Ground.phase }, { on := 8, ground := Ground.phase }], guard := none }) rfl (fun K hK => ?_) AllReadyH.nil
        go_simp
        clear hHeld
        refine hK.out _ _ trivial (fun hHeld => ?_)
        clear hK K
        (try simp only [Act.put, List.setIfInBounds_toArray, List.set_cons_zero, List.set_cons_succ])
        refine wpAnyH_done (by kernel_rfl) ?_ _
        have HN9 := Lib.hid (And.intro hAb nc9)
        clear nc9 nc hA z0 z1 z2 f0 f1 f2 CS
        go_wp2_with fail
        go_meet
        exact ⟨_, rfl, HN9.out.1, HA9.out, HN9.out.2⟩
      · skip
        go_simp
        have hA := heap_alloc_new V1 (.cells #[.int .i64 0, .int .i64 0, .slice none 0 0] 29)
        have hAb := nc.size
        replace nc := nc.alloc nc.size (.cells #[.int .i64 0, .int .i64 0, .slice none 0 0] 29)
        clear hHeld
        refine hK.out _ _ trivial (fun hHeld => ?_)
        clear hK K
        (try simp only [Act.put, List.setIfInBounds_toArray, List.set_cons_zero, List.set_cons_succ])
        generalize V1.alloc (.cells #[.int .i64 0, .int .i64 0, .slice none 0 0] 29) = V4 at *
        generalize V1.heap.size = bA at *
        refine wpAnyH_ready (rs := [6]) (by kernel_rfl) (by simp) ?_
        refine AllReadyH.cons (o := { dst := some 38, op := Op.call { callee := Callee.value (Operand.func 53), args := #[Operand.tmp 37], argTypes := #[30] }, type := 3, pos := "ref.go:109", after := #[{ on := 5, ground := Ground.data }, { on := 2, ground := Ground.chain }], guard := none }) rfl (fun K hK => ?_) AllReadyH.nil
        go_simp
        refine (KB.out V4 nc).mono ?_
        rintro e V5 ⟨rfl, jx⟩
        replace hA := bb hA jx
        replace nc := nc.trans (jx.mono nc.size)
        clear jx
        clear hHeld
        refine hK.out _ _ trivial (fun hHeld => ?_)
        clear hK K
        (try simp only [Act.put, List.setIfInBounds_toArray, List.set_cons_zero, List.set_cons_succ])
        refine wpAnyH_take (i := 7) (oi := { dst := some 39, op := Op.build 29 #[(0, Operand.tmp 35), (1, Operand.tmp 38)], type := 29, pos := "ref.go:109", after := #[{ on := 3, ground := Ground.data }, { on := 6, ground := Ground.data }], guard := none }) (v := ?_) rfl (by kernel_rfl) (by kernel_rfl) (by kernel_rfl) (fun _ _ _ h => h) (Or.inl ⟨by rfl, ?_⟩) (by assumption) ?_
        rotate_left
        · intro w hSw
          (try dsimp only at hSw)
          first | (go_simp; done) | (go_simp; with_reducible rfl)
        (try simp only [Act.put, List.setIfInBounds_toArray, List.set_cons_zero, List.set_cons_succ])
        obtain ⟨z0, z1, z2⟩ := sh_cells _ _ _ _ _ hA
        have f0 := sh_frozen hA 0
        have f1 := sh_frozen hA 1
        have f2 := sh_frozen hA 2
        have nc9 := below_setCells bA hAb [.int .i64 ba, .int .i64 tv, .slice none 0 0] 0 _ _ nc
        have HA9 := Lib.hid (full_setCells hA [.int .i64 ba, .int .i64 tv, .slice none 0 0] rfl)
        refine wpAnyH_ready (rs := [9]) (by kernel_rfl) (by simp) ?_
        refine AllReadyH.cons (o := { dst := none, op := Op.store 29 (Operand.tmp 4) (Operand.tmp 39), type := 0, pos := "ref.go:109", after := #[{ on := 8, ground := Ground.data }, { on := 7, ground := Ground.data }, { on := 6, ground := Ground.chain }, { on := 0, ground := Ground.phase }, { on := 1, ground := Ground.phase }, { on := 2, ground := Ground.phase }, { on := 3, ground := Ground.phase }, { on := 4, ground := Ground.phase }, { on := 5, ground := Ground.phase }, { on := 6, ground := Ground.phase }, { on := 7, ground := Ground.phase }, { on := 8, ground := Ground.phase }], guard := none }) rfl (fun K hK => ?_) AllReadyH.nil
        go_simp
        clear hHeld
        refine hK.out _ _ trivial (fun hHeld => ?_)
        clear hK K
        (try simp only [Act.put, List.setIfInBounds_toArray, List.set_cons_zero, List.set_cons_succ])
        refine wpAnyH_done (by kernel_rfl) ?_ _
        have HN9 := Lib.hid (And.intro hAb nc9)
        clear nc9 nc hA z0 z1 z2 f0 f1 f2 CS
        go_wp2_with fail
        go_meet
        exact ⟨_, rfl, HN9.out.1, HA9.out, HN9.out.2⟩
    · skip
      go_simp
      have hA := heap_alloc_new V0 (.cells #[.int .i64 0, .int .i64 0, .slice none 0 0] 29)
      have hAb := nc.size
      replace nc := nc.alloc nc.size (.cells #[.int .i64 0, .int .i64 0, .slice none 0 0] 29)
      clear hHeld
      refine hK.out _ _ trivial (fun hHeld => ?_)
      clear hK K
      (try simp only [Act.put, List.setIfInBounds_toArray, List.set_cons_zero, List.set_cons_succ])
      generalize V0.alloc (.cells #[.int .i64 0, .int .i64 0, .slice none 0 0] 29) = V6 at *
      generalize V0.heap.size = bA at *
      refine wpAnyH_ready (rs := [2]) (by kernel_rfl) (by simp) ?_
      refine AllReadyH.cons (o := { dst := some 34, op := Op.call { callee := Callee.value (Operand.func 53), args := #[Operand.tmp 33], argTypes := #[30] }, type := 3, pos := "ref.go:109", after := #[{ on := 1, ground := Ground.data }], guard := none }) rfl (fun K hK => ?_) AllReadyH.nil
      go_simp
      refine (KA.out V6 nc).mono ?_
      rintro e V7 ⟨rfl, jx⟩
      replace hA := bb hA jx
      replace nc := nc.trans (jx.mono nc.size)
      clear jx
      clear hHeld
      refine hK.out _ _ trivial (fun hHeld => ?_)
      clear hK K
      (try simp only [Act.put, List.setIfInBounds_toArray, List.set_cons_zero, List.set_cons_succ])
      refine wpAnyH_take (i := 3) (oi := { dst := some 35, op := Op.binOp BinOp.sub 3 (Operand.tmp 34) (Operand.const (Value.int IntKind.i64 1)) 3, type := 3, pos := "ref.go:109", after := #[{ on := 2, ground := Ground.data }], guard := none }) (v := ?_) rfl (by kernel_rfl) (by kernel_rfl) (by kernel_rfl) (fun _ _ _ h => h) (Or.inl ⟨by rfl, ?_⟩) (by assumption) ?_
      rotate_left
      · intro w hSw
        (try dsimp only at hSw)
        first | (go_simp; done) | (go_simp; with_reducible rfl)
      (try simp only [Act.put, List.setIfInBounds_toArray, List.set_cons_zero, List.set_cons_succ])
      refine wpAnyH_ready (rs := [6]) (by kernel_rfl) (by simp) ?_
      refine AllReadyH.cons (o := { dst := some 38, op := Op.call { callee := Callee.value (Operand.func 53), args := #[Operand.tmp 37], argTypes := #[30] }, type := 3, pos := "ref.go:109", after := #[{ on := 5, ground := Ground.data }, { on := 2, ground := Ground.chain }], guard := none }) rfl (fun K hK => ?_) AllReadyH.nil
      go_simp
      refine (KB.out V7 nc).mono ?_
      rintro e V8 ⟨rfl, jx⟩
      replace hA := bb hA jx
      replace nc := nc.trans (jx.mono nc.size)
      clear jx
      clear hHeld
      refine hK.out _ _ trivial (fun hHeld => ?_)
      clear hK K
      (try simp only [Act.put, List.setIfInBounds_toArray, List.set_cons_zero, List.set_cons_succ])
      refine wpAnyH_take (i := 7) (oi := { dst := some 39, op := Op.build 29 #[(0, Operand.tmp 35), (1, Operand.tmp 38)], type := 29, pos := "ref.go:109", after := #[{ on := 3, ground := Ground.data }, { on := 6, ground := Ground.data }], guard := none }) (v := ?_) rfl (by kernel_rfl) (by kernel_rfl) (by kernel_rfl) (fun _ _ _ h => h) (Or.inl ⟨by rfl, ?_⟩) (by assumption) ?_
      rotate_left
      · intro w hSw
        (try dsimp only at hSw)
        first | (go_simp; done) | (go_simp; with_reducible rfl)
      (try simp only [Act.put, List.setIfInBounds_toArray, List.set_cons_zero, List.set_cons_succ])
      obtain ⟨z0, z1, z2⟩ := sh_cells _ _ _ _ _ hA
      have f0 := sh_frozen hA 0
      have f1 := sh_frozen hA 1
      have f2 := sh_frozen hA 2
      have nc9 := below_setCells bA hAb [.int .i64 ba, .int .i64 tv, .slice none 0 0] 0 _ _ nc
      have HA9 := Lib.hid (full_setCells hA [.int .i64 ba, .int .i64 tv, .slice none 0 0] rfl)
      refine wpAnyH_ready (rs := [9]) (by kernel_rfl) (by simp) ?_
      refine AllReadyH.cons (o := { dst := none, op := Op.store 29 (Operand.tmp 4) (Operand.tmp 39), type := 0, pos := "ref.go:109", after := #[{ on := 8, ground := Ground.data }, { on := 7, ground := Ground.data }, { on := 6, ground := Ground.chain }, { on := 0, ground := Ground.phase }, { on := 1, ground := Ground.phase }, { on := 2, ground := Ground.phase }, { on := 3, ground := Ground.phase }, { on := 4, ground := Ground.phase }, { on := 5, ground := Ground.phase }, { on := 6, ground := Ground.phase }, { on := 7, ground := Ground.phase }, { on := 8, ground := Ground.phase }], guard := none }) rfl (fun K hK => ?_) AllReadyH.nil
      go_simp
      clear hHeld
      refine hK.out _ _ trivial (fun hHeld => ?_)
      clear hK K
      (try simp only [Act.put, List.setIfInBounds_toArray, List.set_cons_zero, List.set_cons_succ])
      refine wpAnyH_done (by kernel_rfl) ?_ _
      have HN9 := Lib.hid (And.intro hAb nc9)
      clear nc9 nc hA z0 z1 z2 f0 f1 f2 CS
      go_wp2_with fail
      go_meet
      exact ⟨_, rfl, HN9.out.1, HA9.out, HN9.out.2⟩
  obtain ⟨m, rfl, hmW, hm, nc⟩ := hcut
  have LL := HX.out.trans (nc.mono HX.out.size)
  have hRW := bb HR.out nc
  have hmne : w.heap.size < m := Nat.lt_of_lt_of_le (nb_lt2 HR.out) hmW
  have HI := Lib.hid (show OfI [(w.heap.size, #[.int .i64 0, .int .i64 0, .slice none 0 0], 29)] ba tv w.heap.size m w (.slice none 0 0) [] wc from
    ⟨by omega, LL, (fun p hp => by
      rw [List.mem_singleton.1 hp]
      exact hRW), hm, World.ownsRow_nil _ _ _ _⟩)
  have HM := Lib.hid hmne
  obtain ⟨L, hL⟩ : ∃ L : List (Nat × Array Value × TypeId), L = [(w.heap.size, #[.int .i64 0, .int .i64 0, .slice none 0 0], 29)] := ⟨_, rfl⟩
  rw [← hL] at HI
  have HLR := Lib.hid (show (w.heap.size, #[.int .i64 0, .int .i64 0, .slice none 0 0], 29) ∈ L by rw [hL]; simp)
  have HLL := Lib.hid (show ∀ p ∈ L, p.1 ≠ m ∧ p.2.2 ∈ [26, 29] by
    have := HM.out
    rw [hL]
    intro p hp
    rw [List.mem_singleton.1 hp]
    exact ⟨by simp; omega, by simp⟩)
  obtain ⟨rs, hrs⟩ : ∃ rs, rowsOf n (bs.drop 13) = rs := ⟨_, rfl⟩
  have HRS := Lib.hid (show rs.length = n ∧ ∀ k, k < n → rs.take (k + 1) = rs.take k ++ [rowOf ((bs.drop (13 + 13 * k)).take 13)] by
    rw [← hrs]
    refine ⟨rowsOf_len _ _, fun k hk => ?_⟩
    have hkl : k < (rowsOf n (bs.drop 13)).length := by rw [rowsOf_len]; exact hk
    have hg := rowsOf_get (bs.drop 13) hk
    rw [List.getElem?_eq_getElem hkl] at hg
    rw [List.take_add_one, List.getElem?_eq_getElem hkl]
    have e : (rowsOf n (bs.drop 13))[k] = rowOf ((bs.drop (13 + 13 * k)).take 13) := by
      have := hg
      simp only [Option.getD_some, List.drop_drop] at this
      exact this
    rw [e]
    rfl)
  rw [hrs] at HD
  have RW2 := Lib.hid (fun W (mm : Below w.heap.size w W) => HROW.out.below mm)
  clear hL hm nc LL hRW KA KB RW hrs h35 hl1 hl2 hc6 hmW hmne HV
  generalize wc = W1 at *
  go_wp2
  go_loopw [5] (fun i wr => ∃ (k : Nat) (v : Value), k ≤ n ∧ i = .int .i64 (13 + 13 * (k : Int)) ∧ OfI L ba tv w.heap.size m w v (rs.take k) wr) (fun i _ => len - (intOf i).toNat)
  case atStart => exact ⟨0, _, by omega, rfl, HI.out⟩
  case round =>
    obtain ⟨k, v, hk, rfl, hI⟩ := hrel
    clear HI
    by_cases hlt : k < n
    · have p1 : decide (13 + 13 * (k : Int) < (len : Int)) = true := decide_eq_true (by have := HL.out.1; omega)
      obtain ⟨o, ho⟩ : ∃ o : Nat, 13 + 13 * k = o := ⟨_, rfl⟩
      have hoi : 13 + 13 * (k : Int) = (o : Int) := by omega
      rw [hoi] at p1 ⊢
      have ho2 : o + 13 ≤ len := by have := HL.out.1; omega
      have hlc2 : len ≤ cap := hlc
      have k1 : IntKind.i64.wrap ((o : Int) + 13) = (o : Int) + 13 := IntWalk.i64_in _ (by omega)
      have k2 : (o : Int) + 13 ≤ (cap : Int) := by omega
      have k3 : ¬ cap = o := by omega
      have k4 : (0 : Int) ≤ (o : Int) := by omega
      have k5 : (o : Int) ≤ (o : Int) + 13 := by omega
      go_upto_region 10 with fail
      clear p1 k1 k2 k3 k4 k5
      rw [show o + 13 - o = 13 by omega]
      obtain ⟨c3, hc3⟩ : ∃ c, cap - o = c := ⟨_, rfl⟩
      rw [hc3]
      have hl := HRS.out.1
      have hrl : (rs.take k).length = k := by rw [List.length_take, hl]; omega
      have hst := HRS.out.2 k hlt
      rw [ho] at hst
      obtain ⟨cs, hcs⟩ : ∃ cs, (bs.drop o).take 13 = cs := ⟨_, rfl⟩
      have hcl : cs.length = 13 := by rw [← hcs]; have := HL.out; simp; omega
      have RC := Lib.hid (fun W (mm : Below w.heap.size w W) => hcs ▸ ((RW2.out W mm).drop o).take 13)
      have hin : In 255 cs := fun x hx => HL.out.2.2.2 x (List.mem_of_mem_drop (List.mem_of_mem_take (hcs ▸ hx)))
      rw [hcs] at hst
      match cs, hcl with
      | e0 :: e1 :: e2 :: t, hcl =>
      have htl : t.length = 10 := by simpa using hcl
      have b0 := hin e0 (by simp)
      have b1 := hin e1 (by simp)
      have b2 := hin e2 (by simp)
      have hit : In 255 t := fun x hx => hin x (by simp [hx])
      have KA := Lib.hid (fun W (mm : Below w.heap.size w W) => r11take_any (some ⟨ab, off + o + 3, none⟩) 4 (c3 - 3) (t.take 4) (by simp; omega) (by omega) (fun x hx => hit x (List.mem_of_mem_take hx)) W ((((RC.out W mm).drop 3).take 4).more mm.size))
      have KB := Lib.hid (fun W (mm : Below w.heap.size w W) => r11take_any (some ⟨ab, off + o + 7, none⟩) 6 (c3 - 7) ((t.drop 4).take 6) (by simp; omega) (by omega) (fun x hx => hit x (List.mem_of_mem_drop (List.mem_of_mem_take hx))) W ((((RC.out W mm).drop 7).take 6).more mm.size))
      have CS := Lib.hid (fun W (mm : Below w.heap.size w W) => show W.cell? ⟨ab, off + o, none⟩ = some (.int .u8 e0) ∧ W.cell? ⟨ab, off + o + 1, none⟩ = some (.int .u8 e1) ∧ W.cell? ⟨ab, off + o + 2, none⟩ = some (.int .u8 e2) from by
        obtain ⟨b', off', e, _, hc⟩ := (RC.out W mm).2 (by simp)
        injection e with e
        injection e with e1 e2
        subst e1 e2
        exact ⟨hc 0 (by simp), hc 1 (by simp), hc 2 (by simp)⟩)
      have hS : rowOf (e0 :: e1 :: e2 :: t) = (e0, e1 - 1, e2 - 1, numOf (t.take 4), numOf ((t.drop 4).take 6)) := by
        unfold rowOf
        simp [numOf]
      rw [hS] at hst
      have HST := Lib.hid hst
      have w0 : IntKind.i64.wrap e0 = e0 := IntWalk.i64_in _ (by omega)
      have w1 : IntKind.i64.wrap e1 = e1 := IntWalk.i64_in _ (by omega)
      have w2 : IntKind.i64.wrap e2 = e2 := IntWalk.i64_in _ (by omega)
      have w3 : IntKind.i64.wrap (e1 - 1) = e1 - 1 := IntWalk.i64_in _ (by omega)
      have w4 : IntKind.i64.wrap (e2 - 1) = e2 - 1 := IntWalk.i64_in _ (by omega)
      have v0 : (7 : Int) ≤ (c3 : Int) := by omega
      have v1 : (13 : Int) ≤ (c3 : Int) := by omega
      have v2 : ¬ c3 = 3 := by omega
      have v3 : ¬ c3 = 7 := by omega
      generalize numOf (t.take 4) = N4 at *
      generalize numOf ((t.drop 4).take 6) = N6 at *
      obtain ⟨i0, hi, hz0, hz1, hz2⟩ := info_parts Try.infoRow
      have I := hI.drew
      have nc := I.lo
      have HK := Lib.hid (And.intro hrl (show k ≤ 255 by have := HL.out.2.2.1; omega))
      clear hin hcl hS hst b0 b1 b2 hit htl hrl hl hI hcs ho
      generalize rs.take k = rk at *
      refine wp_region_held_drew (S := fun W => W.cell? ⟨ab, off + o, none⟩ = some (.int .u8 e0) ∧ W.cell? ⟨ab, off + o + 1, none⟩ = some (.int .u8 e1) ∧ W.cell? ⟨ab, off + o + 2, none⟩ = some (.int .u8 e2)) (by kernel_rfl) (CS.out _ nc) (fun hHeld => ?_)
      generalize wr.drew = V0 at *
      refine wpAnyH_take (i := 0) (oi := { dst := some 51, op := Op.fieldAddr 29 (Operand.tmp 4) 2, type := 0, pos := "ref.go:112", after := #[], guard := none }) (v := ?_) rfl (by kernel_rfl) (by kernel_rfl) (by kernel_rfl) (fun _ _ _ h => h) (Or.inl ⟨by rfl, ?_⟩) (by assumption) ?_
      rotate_left
      · intro w hSw
        (try dsimp only at hSw)
        first | (go_simp; done) | (go_simp; with_reducible rfl)
      (try simp only [Act.put, List.setIfInBounds_toArray, List.set_cons_zero, List.set_cons_succ])
      refine wpAnyH_take (i := 2) (oi := { dst := some 53, op := Op.move (Operand.tmp 6), type := 30, pos := "ref.go:112", after := #[], guard := none }) (v := ?_) rfl (by kernel_rfl) (by kernel_rfl) (by kernel_rfl) (fun _ _ _ h => h) (Or.inl ⟨by rfl, ?_⟩) (by assumption) ?_
      rotate_left
      · intro w hSw
        (try dsimp only at hSw)
        first | (go_simp; done) | (go_simp; with_reducible rfl)
      (try simp only [Act.put, List.setIfInBounds_toArray, List.set_cons_zero, List.set_cons_succ])
      refine wpAnyH_take (i := 3) (oi := { dst := some 54, op := Op.indexAddr 30 (Operand.tmp 53) (Operand.const (Value.int IntKind.i64 0)), type := 0, pos := "ref.go:112", after := #[{ on := 2, ground := Ground.data }], guard := none }) (v := ?_) rfl (by kernel_rfl) (by kernel_rfl) (by kernel_rfl) (fun _ _ _ h => h) (Or.inl ⟨by rfl, ?_⟩) (by assumption) ?_
      rotate_left
      · intro w hSw
        (try dsimp only at hSw)
        first | (go_simp; done) | (go_simp; with_reducible rfl)
      (try simp only [Act.put, List.setIfInBounds_toArray, List.set_cons_zero, List.set_cons_succ])
      refine wpAnyH_take (i := 4) (oi := { dst := some 55, op := Op.load 5 (Operand.tmp 54), type := 5, pos := "ref.go:112", after := #[{ on := 3, ground := Ground.data }], guard := none }) (v := ?_) rfl (by kernel_rfl) (by kernel_rfl) (by kernel_rfl) (fun _ _ _ h => h) (Or.inl ⟨by rfl, ?_⟩) (by assumption) ?_
      rotate_left
      · intro w hSw
        (try dsimp only at hSw)
        first | (go_simp; done) | (go_simp; with_reducible rfl)
      (try simp only [Act.put, List.setIfInBounds_toArray, List.set_cons_zero, List.set_cons_succ])
      refine wpAnyH_take (i := 5) (oi := { dst := some 56, op := Op.convert 5 3 (Operand.tmp 55), type := 3, pos := "ref.go:112", after := #[{ on := 4, ground := Ground.data }], guard := none }) (v := ?_) rfl (by kernel_rfl) (by kernel_rfl) (by kernel_rfl) (fun _ _ _ h => h) (Or.inl ⟨by rfl, ?_⟩) (by assumption) ?_
      rotate_left
      · intro w hSw
        (try dsimp only at hSw)
        first | (go_simp; done) | (go_simp; with_reducible rfl)
      (try simp only [Act.put, List.setIfInBounds_toArray, List.set_cons_zero, List.set_cons_succ])
      refine wpAnyH_take (i := 6) (oi := { dst := some 57, op := Op.move (Operand.tmp 6), type := 30, pos := "ref.go:112", after := #[], guard := none }) (v := ?_) rfl (by kernel_rfl) (by kernel_rfl) (by kernel_rfl) (fun _ _ _ h => h) (Or.inl ⟨by rfl, ?_⟩) (by assumption) ?_
      rotate_left
      · intro w hSw
        (try dsimp only at hSw)
        first | (go_simp; done) | (go_simp; with_reducible rfl)
      (try simp only [Act.put, List.setIfInBounds_toArray, List.set_cons_zero, List.set_cons_succ])
      refine wpAnyH_take (i := 7) (oi := { dst := some 58, op := Op.indexAddr 30 (Operand.tmp 57) (Operand.const (Value.int IntKind.i64 1)), type := 0, pos := "ref.go:112", after := #[{ on := 6, ground := Ground.data }], guard := none }) (v := ?_) rfl (by kernel_rfl) (by kernel_rfl) (by kernel_rfl) (fun _ _ _ h => h) (Or.inl ⟨by rfl, ?_⟩) (by assumption) ?_
      rotate_left
      · intro w hSw
        (try dsimp only at hSw)
        first | (go_simp; done) | (go_simp; with_reducible rfl)
      (try simp only [Act.put, List.setIfInBounds_toArray, List.set_cons_zero, List.set_cons_succ])
      refine wpAnyH_take (i := 8) (oi := { dst := some 59, op := Op.load 5 (Operand.tmp 58), type := 5, pos := "ref.go:112", after := #[{ on := 7, ground := Ground.data }], guard := none }) (v := ?_) rfl (by kernel_rfl) (by kernel_rfl) (by kernel_rfl) (fun _ _ _ h => h) (Or.inl ⟨by rfl, ?_⟩) (by assumption) ?_
      rotate_left
      · intro w hSw
        (try dsimp only at hSw)
        first | (go_simp; done) | (go_simp; with_reducible rfl)
      (try simp only [Act.put, List.setIfInBounds_toArray, List.set_cons_zero, List.set_cons_succ])
      refine wpAnyH_take (i := 9) (oi := { dst := some 60, op := Op.convert 5 3 (Operand.tmp 59), type := 3, pos := "ref.go:112", after := #[{ on := 8, ground := Ground.data }], guard := none }) (v := ?_) rfl (by kernel_rfl) (by kernel_rfl) (by kernel_rfl) (fun _ _ _ h => h) (Or.inl ⟨by rfl, ?_⟩) (by assumption) ?_
      rotate_left
      · intro w hSw
        (try dsimp only at hSw)
        first | (go_simp; done) | (go_simp; with_reducible rfl)
      (try simp only [Act.put, List.setIfInBounds_toArray, List.set_cons_zero, List.set_cons_succ])
      refine wpAnyH_take (i := 10) (oi := { dst := some 61, op := Op.binOp BinOp.sub 3 (Operand.tmp 60) (Operand.const (Value.int IntKind.i64 1)) 3, type := 3, pos := "ref.go:112", after := #[{ on := 9, ground := Ground.data }], guard := none }) (v := ?_) rfl (by kernel_rfl) (by kernel_rfl) (by kernel_rfl) (fun _ _ _ h => h) (Or.inl ⟨by rfl, ?_⟩) (by assumption) ?_
      rotate_left
      · intro w hSw
        (try dsimp only at hSw)
        first | (go_simp; done) | (go_simp; with_reducible rfl)
      (try simp only [Act.put, List.setIfInBounds_toArray, List.set_cons_zero, List.set_cons_succ])
      refine wpAnyH_take (i := 11) (oi := { dst := some 62, op := Op.move (Operand.tmp 6), type := 30, pos := "ref.go:112", after := #[], guard := none }) (v := ?_) rfl (by kernel_rfl) (by kernel_rfl) (by kernel_rfl) (fun _ _ _ h => h) (Or.inl ⟨by rfl, ?_⟩) (by assumption) ?_
      rotate_left
      · intro w hSw
        (try dsimp only at hSw)
        first | (go_simp; done) | (go_simp; with_reducible rfl)
      (try simp only [Act.put, List.setIfInBounds_toArray, List.set_cons_zero, List.set_cons_succ])
      refine wpAnyH_take (i := 12) (oi := { dst := some 63, op := Op.indexAddr 30 (Operand.tmp 62) (Operand.const (Value.int IntKind.i64 2)), type := 0, pos := "ref.go:112", after := #[{ on := 11, ground := Ground.data }], guard := none }) (v := ?_) rfl (by kernel_rfl) (by kernel_rfl) (by kernel_rfl) (fun _ _ _ h => h) (Or.inl ⟨by rfl, ?_⟩) (by assumption) ?_
      rotate_left
      · intro w hSw
        (try dsimp only at hSw)
        first | (go_simp; done) | (go_simp; with_reducible rfl)
      (try simp only [Act.put, List.setIfInBounds_toArray, List.set_cons_zero, List.set_cons_succ])
      refine wpAnyH_take (i := 13) (oi := { dst := some 64, op := Op.load 5 (Operand.tmp 63), type := 5, pos := "ref.go:112", after := #[{ on := 12, ground := Ground.data }], guard := none }) (v := ?_) rfl (by kernel_rfl) (by kernel_rfl) (by kernel_rfl) (fun _ _ _ h => h) (Or.inl ⟨by rfl, ?_⟩) (by assumption) ?_
      rotate_left
      · intro w hSw
        (try dsimp only at hSw)
        first | (go_simp; done) | (go_simp; with_reducible rfl)
      (try simp only [Act.put, List.setIfInBounds_toArray, List.set_cons_zero, List.set_cons_succ])
      refine wpAnyH_take (i := 14) (oi := { dst := some 65, op := Op.convert 5 3 (Operand.tmp 64), type := 3, pos := "ref.go:112", after := #[{ on := 13, ground := Ground.data }], guard := none }) (v := ?_) rfl (by kernel_rfl) (by kernel_rfl) (by kernel_rfl) (fun _ _ _ h => h) (Or.inl ⟨by rfl, ?_⟩) (by assumption) ?_
      rotate_left
      · intro w hSw
        (try dsimp only at hSw)
        first | (go_simp; done) | (go_simp; with_reducible rfl)
      (try simp only [Act.put, List.setIfInBounds_toArray, List.set_cons_zero, List.set_cons_succ])
      refine wpAnyH_take (i := 15) (oi := { dst := some 66, op := Op.binOp BinOp.sub 3 (Operand.tmp 65) (Operand.const (Value.int IntKind.i64 1)) 3, type := 3, pos := "ref.go:112", after := #[{ on := 14, ground := Ground.data }], guard := none }) (v := ?_) rfl (by kernel_rfl) (by kernel_rfl) (by kernel_rfl) (fun _ _ _ h => h) (Or.inl ⟨by rfl, ?_⟩) (by assumption) ?_
      rotate_left
      · intro w hSw
        (try dsimp only at hSw)
        first | (go_simp; done) | (go_simp; with_reducible rfl)
      (try simp only [Act.put, List.setIfInBounds_toArray, List.set_cons_zero, List.set_cons_succ])
      refine wpAnyH_take (i := 16) (oi := { dst := some 67, op := Op.move (Operand.tmp 6), type := 30, pos := "ref.go:112", after := #[], guard := none }) (v := ?_) rfl (by kernel_rfl) (by kernel_rfl) (by kernel_rfl) (fun _ _ _ h => h) (Or.inl ⟨by rfl, ?_⟩) (by assumption) ?_
      rotate_left
      · intro w hSw
        (try dsimp only at hSw)
        first | (go_simp; done) | (go_simp; with_reducible rfl)
      (try simp only [Act.put, List.setIfInBounds_toArray, List.set_cons_zero, List.set_cons_succ])
      refine wpAnyH_take (i := 17) (oi := { dst := some 68, op := Op.slice 30 (Operand.tmp 67) (some (Operand.const (Value.int IntKind.i64 3))) (some (Operand.const (Value.int IntKind.i64 7))) none, type := 30, pos := "ref.go:112", after := #[{ on := 16, ground := Ground.data }], guard := none }) (v := ?_) rfl (by kernel_rfl) (by kernel_rfl) (by kernel_rfl) (fun _ _ _ h => h) (Or.inl ⟨by rfl, ?_⟩) (by assumption) ?_
      rotate_left
      · intro w hSw
        (try dsimp only at hSw)
        first | (go_simp; done) | (go_simp; with_reducible rfl)
      (try simp only [Act.put, List.setIfInBounds_toArray, List.set_cons_zero, List.set_cons_succ])
      refine wpAnyH_take (i := 19) (oi := { dst := some 70, op := Op.move (Operand.tmp 6), type := 30, pos := "ref.go:112", after := #[], guard := none }) (v := ?_) rfl (by kernel_rfl) (by kernel_rfl) (by kernel_rfl) (fun _ _ _ h => h) (Or.inl ⟨by rfl, ?_⟩) (by assumption) ?_
      rotate_left
      · intro w hSw
        (try dsimp only at hSw)
        first | (go_simp; done) | (go_simp; with_reducible rfl)
      (try simp only [Act.put, List.setIfInBounds_toArray, List.set_cons_zero, List.set_cons_succ])
      refine wpAnyH_take (i := 20) (oi := { dst := some 71, op := Op.slice 30 (Operand.tmp 70) (some (Operand.const (Value.int IntKind.i64 7))) (some (Operand.const (Value.int IntKind.i64 13))) none, type := 30, pos := "ref.go:112", after := #[{ on := 19, ground := Ground.data }], guard := none }) (v := ?_) rfl (by kernel_rfl) (by kernel_rfl) (by kernel_rfl) (fun _ _ _ h => h) (Or.inl ⟨by rfl, ?_⟩) (by assumption) ?_
      rotate_left
      · intro w hSw
        (try dsimp only at hSw)
        first | (go_simp; done) | (go_simp; with_reducible rfl)
      (try simp only [Act.put, List.setIfInBounds_toArray, List.set_cons_zero, List.set_cons_succ])
      refine wpAnyH_ready (rs := [1, 18]) (by kernel_rfl) (by simp) ?_
      refine AllReadyH.cons (o := { dst := some 52, op := Op.load 27 (Operand.tmp 51), type := 27, pos := "ref.go:112", after := #[{ on := 0, ground := Ground.data }], guard := none }) rfl (fun K hK => ?_) (AllReadyH.cons (o := { dst := some 69, op := Op.call { callee := Callee.value (Operand.func 53), args := #[Operand.tmp 68], argTypes := #[30] }, type := 3, pos := "ref.go:112", after := #[{ on := 17, ground := Ground.data }], guard := none }) rfl (fun K hK => ?_) AllReadyH.nil)
      have yv : V0.cell? ⟨m, 2, none⟩ = some v := by rw [cell_of_row _ _ _ _ _ _ I.sb]; rfl
      go_simp
      clear yv
      clear hHeld
      refine hK.out _ _ (CS.out _ nc) (fun hHeld => ?_)
      clear hK K
      (try simp only [Act.put, List.setIfInBounds_toArray, List.set_cons_zero, List.set_cons_succ])
      refine wpAnyH_ready (rs := [18]) (by kernel_rfl) (by simp) ?_
      refine AllReadyH.cons (o := { dst := some 69, op := Op.call { callee := Callee.value (Operand.func 53), args := #[Operand.tmp 68], argTypes := #[30] }, type := 3, pos := "ref.go:112", after := #[{ on := 17, ground := Ground.data }], guard := none }) rfl (fun K hK => ?_) AllReadyH.nil
      go_simp
      refine (KA.out V0 nc).mono ?_
      rintro e x18 ⟨rfl, jx⟩
      replace I := I.below jx
      replace nc := nc.trans (jx.mono nc.size)
      clear jx
      clear hHeld
      refine hK.out _ _ (CS.out _ nc) (fun hHeld => ?_)
      clear hK K
      (try simp only [Act.put, List.setIfInBounds_toArray, List.set_cons_zero, List.set_cons_succ])
      refine wpAnyH_ready (rs := [21]) (by kernel_rfl) (by simp) ?_
      refine AllReadyH.cons (o := { dst := some 72, op := Op.call { callee := Callee.value (Operand.func 53), args := #[Operand.tmp 71], argTypes := #[30] }, type := 3, pos := "ref.go:112", after := #[{ on := 20, ground := Ground.data }, { on := 18, ground := Ground.chain }], guard := none }) rfl (fun K hK => ?_) AllReadyH.nil
      go_simp
      refine (KB.out x18 nc).mono ?_
      rintro e x21 ⟨rfl, jx⟩
      replace I := I.below jx
      replace nc := nc.trans (jx.mono nc.size)
      clear jx
      clear hHeld
      refine hK.out _ _ (CS.out _ nc) (fun hHeld => ?_)
      clear hK K
      (try simp only [Act.put, List.setIfInBounds_toArray, List.set_cons_zero, List.set_cons_succ])
      refine wpAnyH_take (i := 22) (oi := { dst := some 73, op := Op.build 23 #[(0, Operand.tmp 61), (1, Operand.tmp 66), (2, Operand.tmp 69), (3, Operand.tmp 72)], type := 23, pos := "ref.go:112", after := #[{ on := 10, ground := Ground.data }, { on := 15, ground := Ground.data }, { on := 18, ground := Ground.data }, { on := 21, ground := Ground.data }], guard := none }) (v := ?_) rfl (by kernel_rfl) (by kernel_rfl) (by kernel_rfl) (fun _ _ _ h => h) (Or.inl ⟨by rfl, ?_⟩) (by assumption) ?_
      rotate_left
      · intro w hSw
        (try dsimp only at hSw)
        first | (go_simp; done) | (go_simp; with_reducible rfl)
      (try simp only [Act.put, List.setIfInBounds_toArray, List.set_cons_zero, List.set_cons_succ])
      refine wpAnyH_take (i := 23) (oi := { dst := some 74, op := Op.build 63 #[(0, Operand.tmp 56), (1, Operand.tmp 73)], type := 63, pos := "ref.go:112", after := #[{ on := 5, ground := Ground.data }, { on := 22, ground := Ground.data }], guard := none }) (v := ?_) rfl (by kernel_rfl) (by kernel_rfl) (by kernel_rfl) (fun _ _ _ h => h) (Or.inl ⟨by rfl, ?_⟩) (by assumption) ?_
      rotate_left
      · intro w hSw
        (try dsimp only at hSw)
        first | (go_simp; done) | (go_simp; with_reducible rfl)
      (try simp only [Act.put, List.setIfInBounds_toArray, List.set_cons_zero, List.set_cons_succ])
      refine wpAnyH_ready (rs := [24]) (by kernel_rfl) (by simp) ?_
      refine AllReadyH.cons (o := { dst := some 75, op := Op.buildSlice 27 1 #[(0, Operand.tmp 74)], type := 27, pos := "ref.go:112", after := #[{ on := 23, ground := Ground.data }], guard := none }) rfl (fun K hK => ?_) AllReadyH.nil
      go_simp
      replace nc := nc.alloc nc.size (.cells #[.int .i64 e0, .int .i64 (e1 - 1), .int .i64 (e2 - 1), .int .i64 N4, .int .i64 N6] 63)
      clear hHeld
      refine hK.out _ _ (CS.out _ nc) (fun hHeld => ?_)
      clear hK K
      (try simp only [Act.put, List.setIfInBounds_toArray, List.set_cons_zero, List.set_cons_succ])
      rotate_left
      go_simp
      refine (KA.out V0 nc).mono ?_
      rintro e x18 ⟨rfl, jx⟩
      replace I := I.below jx
      replace nc := nc.trans (jx.mono nc.size)
      clear jx
      clear hHeld
      refine hK.out _ _ (CS.out _ nc) (fun hHeld => ?_)
      clear hK K
      (try simp only [Act.put, List.setIfInBounds_toArray, List.set_cons_zero, List.set_cons_succ])
      refine wpAnyH_ready (rs := [1, 21]) (by kernel_rfl) (by simp) ?_
      refine AllReadyH.cons (o := { dst := some 52, op := Op.load 27 (Operand.tmp 51), type := 27, pos := "ref.go:112", after := #[{ on := 0, ground := Ground.data }], guard := none }) rfl (fun K hK => ?_) (AllReadyH.cons (o := { dst := some 72, op := Op.call { callee := Callee.value (Operand.func 53), args := #[Operand.tmp 71], argTypes := #[30] }, type := 3, pos := "ref.go:112", after := #[{ on := 20, ground := Ground.data }, { on := 18, ground := Ground.chain }], guard := none }) rfl (fun K hK => ?_) AllReadyH.nil)
      have yv : x18.cell? ⟨m, 2, none⟩ = some v := by rw [cell_of_row _ _ _ _ _ _ I.sb]; rfl
      go_simp
      clear yv
      clear hHeld
      refine hK.out _ _ (CS.out _ nc) (fun hHeld => ?_)
      clear hK K
      (try simp only [Act.put, List.setIfInBounds_toArray, List.set_cons_zero, List.set_cons_succ])
      refine wpAnyH_ready (rs := [21]) (by kernel_rfl) (by simp) ?_
      refine AllReadyH.cons (o := { dst := some 72, op := Op.call { callee := Callee.value (Operand.func 53), args := #[Operand.tmp 71], argTypes := #[30] }, type := 3, pos := "ref.go:112", after := #[{ on := 20, ground := Ground.data }, { on := 18, ground := Ground.chain }], guard := none }) rfl (fun K hK => ?_) AllReadyH.nil
      go_simp
      refine (KB.out x18 nc).mono ?_
      rintro e x21 ⟨rfl, jx⟩
      replace I := I.below jx
      replace nc := nc.trans (jx.mono nc.size)
      clear jx
      clear hHeld
      refine hK.out _ _ (CS.out _ nc) (fun hHeld => ?_)
      clear hK K
      (try simp only [Act.put, List.setIfInBounds_toArray, List.set_cons_zero, List.set_cons_succ])
      refine wpAnyH_take (i := 22) (oi := { dst := some 73, op := Op.build 23 #[(0, Operand.tmp 61), (1, Operand.tmp 66), (2, Operand.tmp 69), (3, Operand.tmp 72)], type := 23, pos := "ref.go:112", after := #[{ on := 10, ground := Ground.data }, { on := 15, ground := Ground.data }, { on := 18, ground := Ground.data }, { on := 21, ground := Ground.data }], guard := none }) (v := ?_) rfl (by kernel_rfl) (by kernel_rfl) (by kernel_rfl) (fun _ _ _ h => h) (Or.inl ⟨by rfl, ?_⟩) (by assumption) ?_
      rotate_left
      · intro w hSw
        (try dsimp only at hSw)
        first | (go_simp; done) | (go_simp; with_reducible rfl)
      (try simp only [Act.put, List.setIfInBounds_toArray, List.set_cons_zero, List.set_cons_succ])
      refine wpAnyH_take (i := 23) (oi := { dst := some 74, op := Op.build 63 #[(0, Operand.tmp 56), (1, Operand.tmp 73)], type := 63, pos := "ref.go:112", after := #[{ on := 5, ground := Ground.data }, { on := 22, ground := Ground.data }], guard := none }) (v := ?_) rfl (by kernel_rfl) (by kernel_rfl) (by kernel_rfl) (fun _ _ _ h => h) (Or.inl ⟨by rfl, ?_⟩) (by assumption) ?_
      rotate_left
      · intro w hSw
        (try dsimp only at hSw)
        first | (go_simp; done) | (go_simp; with_reducible rfl)
      (try simp only [Act.put, List.setIfInBounds_toArray, List.set_cons_zero, List.set_cons_succ])
      refine wpAnyH_ready (rs := [24]) (by kernel_rfl) (by simp) ?_
      refine AllReadyH.cons (o := { dst := some 75, op := Op.buildSlice 27 1 #[(0, Operand.tmp 74)], type := 27, pos := "ref.go:112", after := #[{ on := 23, ground := Ground.data }], guard := none }) rfl (fun K hK => ?_) AllReadyH.nil
      go_simp
      replace nc := nc.alloc nc.size (.cells #[.int .i64 e0, .int .i64 (e1 - 1), .int .i64 (e2 - 1), .int .i64 N4, .int .i64 N6] 63)
      clear hHeld
      refine hK.out _ _ (CS.out _ nc) (fun hHeld => ?_)
      clear hK K
      (try simp only [Act.put, List.setIfInBounds_toArray, List.set_cons_zero, List.set_cons_succ])
      rotate_left
      go_simp
      refine (KB.out x18 nc).mono ?_
      rintro e x21 ⟨rfl, jx⟩
      replace I := I.below jx
      replace nc := nc.trans (jx.mono nc.size)
      clear jx
      clear hHeld
      refine hK.out _ _ (CS.out _ nc) (fun hHeld => ?_)
      clear hK K
      (try simp only [Act.put, List.setIfInBounds_toArray, List.set_cons_zero, List.set_cons_succ])
      refine wpAnyH_take (i := 22) (oi := { dst := some 73, op := Op.build 23 #[(0, Operand.tmp 61), (1, Operand.tmp 66), (2, Operand.tmp 69), (3, Operand.tmp 72)], type := 23, pos := "ref.go:112", after := #[{ on := 10, ground := Ground.data }, { on := 15, ground := Ground.data }, { on := 18, ground := Ground.data }, { on := 21, ground := Ground.data }], guard := none }) (v := ?_) rfl (by kernel_rfl) (by kernel_rfl) (by kernel_rfl) (fun _ _ _ h => h) (Or.inl ⟨by rfl, ?_⟩) (by assumption) ?_
      rotate_left
      · intro w hSw
        (try dsimp only at hSw)
        first | (go_simp; done) | (go_simp; with_reducible rfl)
      (try simp only [Act.put, List.setIfInBounds_toArray, List.set_cons_zero, List.set_cons_succ])
      refine wpAnyH_take (i := 23) (oi := { dst := some 74, op := Op.build 63 #[(0, Operand.tmp 56), (1, Operand.tmp 73)], type := 63, pos := "ref.go:112", after := #[{ on := 5, ground := Ground.data }, { on := 22, ground := Ground.data }], guard := none }) (v := ?_) rfl (by kernel_rfl) (by kernel_rfl) (by kernel_rfl) (fun _ _ _ h => h) (Or.inl ⟨by rfl, ?_⟩) (by assumption) ?_
      rotate_left
      · intro w hSw
        (try dsimp only at hSw)
        first | (go_simp; done) | (go_simp; with_reducible rfl)
      (try simp only [Act.put, List.setIfInBounds_toArray, List.set_cons_zero, List.set_cons_succ])
      refine wpAnyH_ready (rs := [1, 24]) (by kernel_rfl) (by simp) ?_
      refine AllReadyH.cons (o := { dst := some 52, op := Op.load 27 (Operand.tmp 51), type := 27, pos := "ref.go:112", after := #[{ on := 0, ground := Ground.data }], guard := none }) rfl (fun K hK => ?_) (AllReadyH.cons (o := { dst := some 75, op := Op.buildSlice 27 1 #[(0, Operand.tmp 74)], type := 27, pos := "ref.go:112", after := #[{ on := 23, ground := Ground.data }], guard := none }) rfl (fun K hK => ?_) AllReadyH.nil)
      have yv : x21.cell? ⟨m, 2, none⟩ = some v := by rw [cell_of_row _ _ _ _ _ _ I.sb]; rfl
      go_simp
      clear yv
      clear hHeld
      refine hK.out _ _ (CS.out _ nc) (fun hHeld => ?_)
      clear hK K
      (try simp only [Act.put, List.setIfInBounds_toArray, List.set_cons_zero, List.set_cons_succ])
      refine wpAnyH_ready (rs := [24]) (by kernel_rfl) (by simp) ?_
      refine AllReadyH.cons (o := { dst := some 75, op := Op.buildSlice 27 1 #[(0, Operand.tmp 74)], type := 27, pos := "ref.go:112", after := #[{ on := 23, ground := Ground.data }], guard := none }) rfl (fun K hK => ?_) AllReadyH.nil
      go_simp
      replace nc := nc.alloc nc.size (.cells #[.int .i64 e0, .int .i64 (e1 - 1), .int .i64 (e2 - 1), .int .i64 N4, .int .i64 N6] 63)
      clear hHeld
      refine hK.out _ _ (CS.out _ nc) (fun hHeld => ?_)
      clear hK K
      (try simp only [Act.put, List.setIfInBounds_toArray, List.set_cons_zero, List.set_cons_succ])
      rotate_left
      go_simp
      replace nc := nc.alloc nc.size (.cells #[.int .i64 e0, .int .i64 (e1 - 1), .int .i64 (e2 - 1), .int .i64 N4, .int .i64 N6] 63)
      clear hHeld
      refine hK.out _ _ (CS.out _ nc) (fun hHeld => ?_)
      clear hK K
      (try simp only [Act.put, List.setIfInBounds_toArray, List.set_cons_zero, List.set_cons_succ])
      refine wpAnyH_ready (rs := [1]) (by kernel_rfl) (by simp) ?_
      refine AllReadyH.cons (o := { dst := some 52, op := Op.load 27 (Operand.tmp 51), type := 27, pos := "ref.go:112", after := #[{ on := 0, ground := Ground.data }], guard := none }) rfl (fun K hK => ?_) AllReadyH.nil
      have yv : (x21.alloc (.cells #[.int .i64 e0, .int .i64 (e1 - 1), .int .i64 (e2 - 1), .int .i64 N4, .int .i64 N6] 63)).cell? ⟨m, 2, none⟩ = some v := by rw [cell_of_row _ _ _ _ _ _ (blkN I.sb _)]; rfl
      go_simp
      clear yv
      clear hHeld
      refine hK.out _ _ (CS.out _ nc) (fun hHeld => ?_)
      clear hK K
      (try simp only [Act.put, List.setIfInBounds_toArray, List.set_cons_zero, List.set_cons_succ])
      rotate_left
      all_goals
        refine wpAnyH_ready (rs := [25]) (by kernel_rfl) (by simp) ?_
        refine AllReadyH.cons (o := { dst := some 76, op := Op.call { callee := Callee.builtin Builtin.append, args := #[Operand.tmp 52, Operand.tmp 75], argTypes := #[27, 27] }, type := 27, pos := "ref.go:112", after := #[{ on := 1, ground := Ground.data }, { on := 24, ground := Ground.data }, { on := 21, ground := Ground.chain }], guard := none }) rfl (fun K hK => ?_) AllReadyH.nil
        refine step_append_s _ (by rfl) _ _ _ (by rfl) w.heap.size 63 i0 _ 5 40 Try.underlying27 hi hz0 hz1 hz2 rfl (by decide) v k (flatS rowC rk) rfl (HK.out.1 ▸ I.ow.alloc _) ⟨x21.heap.size, 0, none⟩ 1 1 (rowC (e0, e1 - 1, e2 - 1, N4, N6)) rfl rfl (newR_cells x21 (e0, e1 - 1, e2 - 1, N4, N6) _) (rowC_one _) (by omega) (by have := HK.out.2; unfold maxLen; omega) (by have := HK.out.2; omega) nc.size ?_
        intro g9 cap9 w9 O9 G9
        obtain ⟨hm9, hp9, I9⟩ := I.grown HLL.out (e0, e1 - 1, e2 - 1, N4, N6) HK.out.1 G9 O9
        have c9 : w9.cell? ⟨m, 2, none⟩ = some v := by rw [cell_of_row _ _ _ _ _ _ hm9]; rfl
        have f9 := sh_frozen hm9 2
        have n9 := nc.grown G9 nc.size (fun j hj => (I.ow.lt j hj).1)
        have HI9 := Lib.hid I9
        clear hm9 hp9 I9 O9 G9 hHeld
        refine hK.out _ _ (CS.out _ n9) (fun hHeld => ?_)
        clear hK K
        (try simp only [Act.put, List.setIfInBounds_toArray, List.set_cons_zero, List.set_cons_succ])
        refine wpAnyH_take (i := 26) (oi := { dst := some 77, op := Op.fieldAddr 29 (Operand.tmp 4) 2, type := 0, pos := "ref.go:112", after := #[{ on := 0, ground := Ground.phase }, { on := 1, ground := Ground.phase }, { on := 2, ground := Ground.phase }, { on := 3, ground := Ground.phase }, { on := 4, ground := Ground.phase }, { on := 5, ground := Ground.phase }, { on := 6, ground := Ground.phase }, { on := 7, ground := Ground.phase }, { on := 8, ground := Ground.phase }, { on := 9, ground := Ground.phase }, { on := 10, ground := Ground.phase }, { on := 11, ground := Ground.phase }, { on := 12, ground := Ground.phase }, { on := 13, ground := Ground.phase }, { on := 14, ground := Ground.phase }, { on := 15, ground := Ground.phase }, { on := 16, ground := Ground.phase }, { on := 17, ground := Ground.phase }, { on := 18, ground := Ground.phase }, { on := 19, ground := Ground.phase }, { on := 20, ground := Ground.phase }, { on := 21, ground := Ground.phase }, { on := 22, ground := Ground.phase }, { on := 23, ground := Ground.phase }, { on := 24, ground := Ground.phase }, { on := 25, ground := Ground.phase }], guard := none }) (v := ?_) rfl (by kernel_rfl) (by kernel_rfl) (by kernel_rfl) (fun _ _ _ h => h) (Or.inl ⟨by rfl, ?_⟩) (by assumption) ?_
        rotate_left
        · intro w hSw
          (try dsimp only at hSw)
          first | (go_simp; done) | (go_simp; with_reducible rfl)
        (try simp only [Act.put, List.setIfInBounds_toArray, List.set_cons_zero, List.set_cons_succ])
        refine wpAnyH_ready (rs := [27]) (by kernel_rfl) (by simp) ?_
        refine AllReadyH.cons (o := { dst := none, op := Op.store 27 (Operand.tmp 77) (Operand.tmp 76), type := 0, pos := "ref.go:112", after := #[{ on := 26, ground := Ground.data }, { on := 25, ground := Ground.data }, { on := 25, ground := Ground.chain }, { on := 0, ground := Ground.phase }, { on := 1, ground := Ground.phase }, { on := 2, ground := Ground.phase }, { on := 3, ground := Ground.phase }, { on := 4, ground := Ground.phase }, { on := 5, ground := Ground.phase }, { on := 6, ground := Ground.phase }, { on := 7, ground := Ground.phase }, { on := 8, ground := Ground.phase }, { on := 9, ground := Ground.phase }, { on := 10, ground := Ground.phase }, { on := 11, ground := Ground.phase }, { on := 12, ground := Ground.phase }, { on := 13, ground := Ground.phase }, { on := 14, ground := Ground.phase }, { on := 15, ground := Ground.phase }, { on := 16, ground := Ground.phase }, { on := 17, ground := Ground.phase }, { on := 18, ground := Ground.phase }, { on := 19, ground := Ground.phase }, { on := 20, ground := Ground.phase }, { on := 21, ground := Ground.phase }, { on := 22, ground := Ground.phase }, { on := 23, ground := Ground.phase }, { on := 24, ground := Ground.phase }, { on := 25, ground := Ground.phase }], guard := none }) rfl (fun K hK => ?_) AllReadyH.nil
        go_simp
        clear hHeld
        refine hK.out _ _ (CS.out _ HI9.out.lo) (fun hHeld => ?_)
        clear hK K hHeld
        (try simp only [Act.put, List.setIfInBounds_toArray, List.set_cons_zero, List.set_cons_succ])
        refine wpAnyH_done (by kernel_rfl) ?_ _
        rw [← HST.out] at HI9
        clear c9 f9 n9 nc I CS w0 w1 w2 w3 w4 v0 v1 v2 v3
        have k6 : IntKind.i64.wrap ((o : Int) + 13) = (o : Int) + 13 := IntWalk.i64_in _ (by omega)
        have k7 : wrap64 ((o : Int) + 13) = (o : Int) + 13 := IntWalk.wrap64_in _ (by omega)
        go_wp2
        go_roundw
        case rel => exact ⟨k + 1, _, by omega, by rw [show 13 + 13 * ((k + 1 : Nat) : Int) = (o : Int) + 13 by omega], HI9.out⟩
        case measure => simp [intOf]; omega
    · obtain rfl : k = n := by omega
      have p1 : decide (13 + 13 * (k : Int) < (len : Int)) = false := decide_eq_false (by have := HL.out.1; omega)
      rw [show rs.take k = rs from List.take_of_length_le (by rw [HRS.out.1]; exact Nat.le_refl _)] at hI
      obtain ⟨A, c, rfl, -, -, -⟩ := ownS_slice hI.ow
      have hr := hI.st _ HLR.out
      obtain ⟨y0, y1, y2⟩ := sh_cells _ _ _ _ _ hr
      have f0 := sh_frozen hr 0
      have f1 := sh_frozen hr 1
      have f3 := sh_frozen hr 2
      obtain ⟨x0, x1, x2⟩ := sh_cells _ _ _ _ _ hI.sb
      obtain ⟨g, hg⟩ : ∃ g, shOk ba tv rs = g := ⟨_, rfl⟩
      have KR := Lib.hid (hg ▸ r11Right_any ba tv A rs.length c rs rfl (by have := HRS.out.1; have := HL.out.2.2.1; omega) wr (SRow.of_own rowC_len (by decide) hI.ow))
      replace HD := Lib.hid (show tkS bs = if g = true then (ba, tv, rs, 0) else (0, 0, [], 60) by rw [HD.out, hg])
      have HI := Lib.hid hI
      clear hI hr hg
      go_wp2_with fail
      refine KR.out.mono ?_
      rintro e w9 ⟨rfl, m9⟩
      have hI := HI.out.below m9
      have hr := hI.st _ HLR.out
      clear y0 y1 y2 f0 f1 f3 x0 x1 x2 m9 KR
      obtain ⟨y0, y1, y2⟩ := sh_cells _ _ _ _ _ hr
      have f0 := sh_frozen hr 0
      have f1 := sh_frozen hr 1
      have f3 := sh_frozen hr 2
      obtain ⟨x0, x1, x2⟩ := sh_cells _ _ _ _ _ hI.sb
      have HRR := Lib.hid hr
      have HI9 := Lib.hid hI
      clear hI hr
      cases g
      · go_wp2
        refine bodyPost_ret (results_sh2 rfl _ _ w.heap.size _ (0, 0) rfl (full_setCells HRR.out [.int .i64 0, .int .i64 0, .slice none 0 0] rfl) rfl) rfl ?_
        rw [HD.out]
        exact ⟨_, rfl, World.ownsRow_nil _ _ _ _, below_setCells w.heap.size (Nat.le_refl _) [.int .i64 0, .int .i64 0, .slice none 0 0] 0 w _ HI9.out.lo⟩
      · go_wp2
        refine bodyPost_ret (results_sh2 rfl _ _ w.heap.size _ (0, 0) rfl (full_setCells HRR.out [.int .i64 ba, .int .i64 tv, .slice A rs.length c] rfl) rfl) rfl ?_
        rw [HD.out]
        exact ⟨_, rfl, ownS_apart (t := 29) (e := 63) (by decide) [.int .i64 ba, .int .i64 tv, .slice A rs.length c] 0 _ _ HI9.out.ow HRR.out, below_setCells w.heap.size (Nat.le_refl _) [.int .i64 ba, .int .i64 tv, .slice A rs.length c] 0 w _ HI9.out.lo⟩
end Go.Proofs.Ythgoopdekllanaa
