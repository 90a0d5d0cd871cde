/- Nodes and their addresses: what they are; the document's own Nodes, addr. -/
import Derived.Test.YthenbpnlmpeafaaDoorRowS
namespace Go.Proofs.YthenbpnlmpeafaaDoor
open Go.RowKit Go.Shelf
open SumM

/-- A node, as numbers; its cells; all that may be; its address. -/
abbrev Nod := Int × Int
def nodC (u : Nod) : List Value := [.int .u8 u.1, .int .i64 u.2]
theorem nodC_len (u : Nod) : (nodC u).length = 2 := rfl
theorem nodC_one (u : Nod) : ∀ v ∈ nodC u, v.oneCell' = true := by
  intro v hv
  simp [nodC] at hv
  rcases hv with rfl | rfl <;> rfl
def allN : List Nod := [(1, 0), (1, 1), (1, 2), (2, 0), (2, 1), (2, 2), (2, 3), (2, 4), (2, 5), (3, 0)]
/-- An address of any kind and Id: as the document reckons it. -/
def adr (u : Nod) : Int := (167772160 + u.1 * 256 + u.2) % 4294967296
def isNod (u : Nod) : Bool := allN.contains u
/-- Whose address it is. -/
def nodAt (a : Int) : Option Nod := allN.find? fun u => adr u == a
theorem isNod_mem {u : Nod} : isNod u = true ↔ u ∈ allN := by simp [isNod]
theorem adr_all : ∀ u ∈ allN, 0 ≤ adr u ∧ adr u ≤ 4294967295 := by decide
theorem nodAt_adr : ∀ u ∈ allN, nodAt (adr u) = some u := by decide
theorem nodAt_some {a : Int} {u : Nod} (h : nodAt a = some u) : u ∈ allN ∧ adr u = a := by
  have h1 := List.mem_of_find?_eq_some h
  have h2 := List.find?_some h
  exact ⟨h1, by simpa using h2⟩
theorem nodAt_none {a : Int} (h : nodAt a = none) : ∀ u ∈ allN, adr u ≠ a := by
  intro u hu he
  have := List.find?_eq_none.1 h u hu
  simp [he] at this
theorem isNod_iff {k i : Int} : isNod (k, i) = true ↔ (k = 1 ∧ 0 ≤ i ∧ i ≤ 2) ∨ (k = 2 ∧ 0 ≤ i ∧ i ≤ 5) ∨ (k = 3 ∧ i = 0) := by
  rw [isNod_mem]
  simp [allN]
  omega
/-- What Addr and Node tell. -/
def adrV (u : Nod) : Int := if isNod u = true then adr u else 0
def nodV (a : Int) : Nod := (nodAt a).getD (0, 0)
def nodB (a : Int) : Bool := (nodAt a).isSome

theorem nod_cells {w : World} {b : Nat} (nk ni : Int) (h : w.heap[b]? = some (.cells #[.int .u8 nk, .int .i64 ni] 23 (0, 0))) : w.cell? ⟨b, 0, none⟩ = some (.int .u8 nk) ∧ w.cell? ⟨b, 1, none⟩ = some (.int .i64 ni) := by
  refine ⟨?_, ?_⟩ <;> (rw [cell_of_row _ _ _ _ _ _ h]; rfl)
theorem nod_frozen {w : World} {b : Nat} {cs : Array Value} {t : TypeId} (h : w.heap[b]? = some (.cells cs t (0, 0))) (i : Nat) : w.frozen? ⟨b, i, none⟩ = false := by simp [World.frozen?, h]
theorem Tryd.infoNod : (Tryd.prog.info? 23).map (fun i => (i.zero, i.size, i.bytes)) = some (some (.agg #[.int .u8 0, .int .i64 0]), 2, 16) := by kernel_rfl

/-- All nodes, in memory of the call's own. -/
def NodesRet (w : World) (e : Ending) (w' : World) : Prop :=
  ∃ g c, e = .returned (.slice (some ⟨g, 0, none⟩) 10 c) ∧ 10 ≤ c ∧ c ≤ maxLen ∧ w'.ownsRow w.heap.size 23 2 (.slice (some ⟨g, 0, none⟩) 10 c) 10 (flatS nodC allN) ∧ Below w.heap.size w w'

set_option maxRecDepth 100000 in
set_option maxHeartbeats 4000000 in
theorem r7Nodes_any (w : World) : Calls Tryd.prog 21 #[] w (NodesRet w) := by
  obtain ⟨i0, hi, hz0, hz1, hz2⟩ := info_parts Tryd.infoNod
  go_enter Tryd.func21, Tryd.ntmps21
  go_wp2
  go_loopw [1, 2] (fun v i wr => ∃ k : Nat, k ≤ 3 ∧ i = .int .i64 k ∧ wr.ownsRow w.heap.size 23 2 v (0 + k) (flatS nodC (allN.take (0 + k))) ∧ Below w.heap.size w wr) (fun _ i _ => 3 - (intOf i).toNat)
  case atStart => exact ⟨0, by omega, rfl, World.ownsRow_nil _ _ _ _, Below.refl _ _⟩
  case round =>
    obtain ⟨k, hk, rfl, hO, hB⟩ := hrel
    have HO := Lib.hid hO
    have HB := Lib.hid hB
    clear hO hB
    by_cases hlt : k < 3
    · have hkc : k = 0 ∨ k = 1 ∨ k = 2 := by omega
      rcases hkc with rfl | rfl | rfl
      · go_wp2_with (at_builtin; refine wpList_append_srow nodC_len nodC_one (by decide) _ rfl _ _ 42 rfl w.heap.size 23 i0 _ 16 Tryd.underlying42 hi hz0 hz1 hz2 rfl _ (0 + 0) (allN.take (0 + 0)) rfl (HO.out.alloc _) (wr.heap.size + 1) (some ⟨wr.heap.size, 0, none⟩) 1 1 [((1, 0) : Nod)] rfl rfl (SRow.one wr _ ((1, 0) : Nod)) (fun h => by cases h) (by unfold maxLen; omega) (by omega) (by have := HB.out.size; simp; omega) ?_; intro v2 w2 O2 hg2; have B2 := (HB.out.alloc HB.out.size _).grown hg2 (by have := HB.out.size; simp; omega) (fun j e => (HO.out.lt j e).1))
        go_roundw
        case rel => exact ⟨1, by omega, by go_num, O2, B2⟩
        case measure => simp [intOf]
      · go_wp2_with (at_builtin; refine wpList_append_srow nodC_len nodC_one (by decide) _ rfl _ _ 42 rfl w.heap.size 23 i0 _ 16 Tryd.underlying42 hi hz0 hz1 hz2 rfl _ (0 + 1) (allN.take (0 + 1)) rfl (HO.out.alloc _) (wr.heap.size + 1) (some ⟨wr.heap.size, 0, none⟩) 1 1 [((1, 1) : Nod)] rfl rfl (SRow.one wr _ ((1, 1) : Nod)) (fun h => by cases h) (by unfold maxLen; omega) (by omega) (by have := HB.out.size; simp; omega) ?_; intro v2 w2 O2 hg2; have B2 := (HB.out.alloc HB.out.size _).grown hg2 (by have := HB.out.size; simp; omega) (fun j e => (HO.out.lt j e).1))
        go_roundw
        case rel => exact ⟨2, by omega, by go_num, O2, B2⟩
        case measure => simp [intOf]
      · go_wp2_with (at_builtin; refine wpList_append_srow nodC_len nodC_one (by decide) _ rfl _ _ 42 rfl w.heap.size 23 i0 _ 16 Tryd.underlying42 hi hz0 hz1 hz2 rfl _ (0 + 2) (allN.take (0 + 2)) rfl (HO.out.alloc _) (wr.heap.size + 1) (some ⟨wr.heap.size, 0, none⟩) 1 1 [((1, 2) : Nod)] rfl rfl (SRow.one wr _ ((1, 2) : Nod)) (fun h => by cases h) (by unfold maxLen; omega) (by omega) (by have := HB.out.size; simp; omega) ?_; intro v2 w2 O2 hg2; have B2 := (HB.out.alloc HB.out.size _).grown hg2 (by have := HB.out.size; simp; omega) (fun j e => (HO.out.lt j e).1))
        go_roundw
        case rel => exact ⟨3, by omega, by go_num, O2, B2⟩
        case measure => simp [intOf]
    · have p3 : decide ((k : Int) < 3) = false := decide_eq_false (by omega)
      have hk3 : 0 + k = 3 + 0 := by omega
      rw [hk3] at HO
      clear hlt hk hk3
      go_wp2
      go_loopw [1, 3] (fun v i wr => ∃ k : Nat, k ≤ 6 ∧ i = .int .i64 k ∧ wr.ownsRow w.heap.size 23 2 v (3 + k) (flatS nodC (allN.take (3 + k))) ∧ Below w.heap.size w wr) (fun _ i _ => 6 - (intOf i).toNat)
      case atStart => exact ⟨0, by omega, rfl, HO.out, HB.out⟩
      case round =>
        obtain ⟨k, hk, rfl, hO, hB⟩ := hrel
        have HO := Lib.hid hO
        have HB := Lib.hid hB
        clear hO hB
        by_cases hlt : k < 6
        · have hkc : k = 0 ∨ k = 1 ∨ k = 2 ∨ k = 3 ∨ k = 4 ∨ k = 5 := by omega
          rcases hkc with rfl | rfl | rfl | rfl | rfl | rfl
          · go_wp2_with (at_builtin; refine wpList_append_srow nodC_len nodC_one (by decide) _ rfl _ _ 42 rfl w.heap.size 23 i0 _ 16 Tryd.underlying42 hi hz0 hz1 hz2 rfl _ (3 + 0) (allN.take (3 + 0)) rfl (HO.out.alloc _) (wr.heap.size + 1) (some ⟨wr.heap.size, 0, none⟩) 1 1 [((2, 0) : Nod)] rfl rfl (SRow.one wr _ ((2, 0) : Nod)) (fun h => by cases h) (by unfold maxLen; omega) (by omega) (by have := HB.out.size; simp; omega) ?_; intro v2 w2 O2 hg2; have B2 := (HB.out.alloc HB.out.size _).grown hg2 (by have := HB.out.size; simp; omega) (fun j e => (HO.out.lt j e).1))
            go_roundw
            case rel => exact ⟨1, by omega, by go_num, O2, B2⟩
            case measure => simp [intOf]
          · go_wp2_with (at_builtin; refine wpList_append_srow nodC_len nodC_one (by decide) _ rfl _ _ 42 rfl w.heap.size 23 i0 _ 16 Tryd.underlying42 hi hz0 hz1 hz2 rfl _ (3 + 1) (allN.take (3 + 1)) rfl (HO.out.alloc _) (wr.heap.size + 1) (some ⟨wr.heap.size, 0, none⟩) 1 1 [((2, 1) : Nod)] rfl rfl (SRow.one wr _ ((2, 1) : Nod)) (fun h => by cases h) (by unfold maxLen; omega) (by omega) (by have := HB.out.size; simp; omega) ?_; intro v2 w2 O2 hg2; have B2 := (HB.out.alloc HB.out.size _).grown hg2 (by have := HB.out.size; simp; omega) (fun j e => (HO.out.lt j e).1))
            go_roundw
            case rel => exact ⟨2, by omega, by go_num, O2, B2⟩
            case measure => simp [intOf]
          · go_wp2_with (at_builtin; refine wpList_append_srow nodC_len nodC_one (by decide) _ rfl _ _ 42 rfl w.heap.size 23 i0 _ 16 Tryd.underlying42 hi hz0 hz1 hz2 rfl _ (3 + 2) (allN.take (3 + 2)) rfl (HO.out.alloc _) (wr.heap.size + 1) (some ⟨wr.heap.size, 0, none⟩) 1 1 [((2, 2) : Nod)] rfl rfl (SRow.one wr _ ((2, 2) : Nod)) (fun h => by cases h) (by unfold maxLen; omega) (by omega) (by have := HB.out.size; simp; omega) ?_; intro v2 w2 O2 hg2; have B2 := (HB.out.alloc HB.out.size _).grown hg2 (by have := HB.out.size; simp; omega) (fun j e => (HO.out.lt j e).1))
            go_roundw
            case rel => exact ⟨3, by omega, by go_num, O2, B2⟩
            case measure => simp [intOf]
          · go_wp2_with (at_builtin; refine wpList_append_srow nodC_len nodC_one (by decide) _ rfl _ _ 42 rfl w.heap.size 23 i0 _ 16 Tryd.underlying42 hi hz0 hz1 hz2 rfl _ (3 + 3) (allN.take (3 + 3)) rfl (HO.out.alloc _) (wr.heap.size + 1) (some ⟨wr.heap.size, 0, none⟩) 1 1 [((2, 3) : Nod)] rfl rfl (SRow.one wr _ ((2, 3) : Nod)) (fun h => by cases h) (by unfold maxLen; omega) (by omega) (by have := HB.out.size; simp; omega) ?_; intro v2 w2 O2 hg2; have B2 := (HB.out.alloc HB.out.size _).grown hg2 (by have := HB.out.size; simp; omega) (fun j e => (HO.out.lt j e).1))
            go_roundw
            case rel => exact ⟨4, by omega, by go_num, O2, B2⟩
            case measure => simp [intOf]
          · go_wp2_with (at_builtin; refine wpList_append_srow nodC_len nodC_one (by decide) _ rfl _ _ 42 rfl w.heap.size 23 i0 _ 16 Tryd.underlying42 hi hz0 hz1 hz2 rfl _ (3 + 4) (allN.take (3 + 4)) rfl (HO.out.alloc _) (wr.heap.size + 1) (some ⟨wr.heap.size, 0, none⟩) 1 1 [((2, 4) : Nod)] rfl rfl (SRow.one wr _ ((2, 4) : Nod)) (fun h => by cases h) (by unfold maxLen; omega) (by omega) (by have := HB.out.size; simp; omega) ?_; intro v2 w2 O2 hg2; have B2 := (HB.out.alloc HB.out.size _).grown hg2 (by have := HB.out.size; simp; omega) (fun j e => (HO.out.lt j e).1))
            go_roundw
            case rel => exact ⟨5, by omega, by go_num, O2, B2⟩
            case measure => simp [intOf]
          · go_wp2_with (at_builtin; refine wpList_append_srow nodC_len nodC_one (by decide) _ rfl _ _ 42 rfl w.heap.size 23 i0 _ 16 Tryd.underlying42 hi hz0 hz1 hz2 rfl _ (3 + 5) (allN.take (3 + 5)) rfl (HO.out.alloc _) (wr.heap.size + 1) (some ⟨wr.heap.size, 0, none⟩) 1 1 [((2, 5) : Nod)] rfl rfl (SRow.one wr _ ((2, 5) : Nod)) (fun h => by cases h) (by unfold maxLen; omega) (by omega) (by have := HB.out.size; simp; omega) ?_; intro v2 w2 O2 hg2; have B2 := (HB.out.alloc HB.out.size _).grown hg2 (by have := HB.out.size; simp; omega) (fun j e => (HO.out.lt j e).1))
            go_roundw
            case rel => exact ⟨6, by omega, by go_num, O2, B2⟩
            case measure => simp [intOf]
        · obtain rfl : k = 6 := by omega
          clear hlt hk
          go_wp2_with (at_builtin; refine wpList_append_srow nodC_len nodC_one (by decide) _ rfl _ _ 42 rfl w.heap.size 23 i0 _ 16 Tryd.underlying42 hi hz0 hz1 hz2 rfl _ (3 + 6) (allN.take (3 + 6)) rfl (HO.out.alloc _) (wr.heap.size + 1) (some ⟨wr.heap.size, 0, none⟩) 1 1 [((3, 0) : Nod)] rfl rfl (SRow.one wr _ ((3, 0) : Nod)) (fun h => by cases h) (by unfold maxLen; omega) (by omega) (by have := HB.out.size; simp; omega) ?_; intro v2 w2 O2 hg2; have B2 := (HB.out.alloc HB.out.size _).grown hg2 (by have := HB.out.size; simp; omega) (fun j e => (HO.out.lt j e).1))
          obtain ⟨g, c, rfl, hg, hc1, hc2⟩ := ownS_form O2 (by omega)
          go_ret
          exact ⟨g, c, rfl, hc1, hc2, O2, B2⟩
end Go.Proofs.YthenbpnlmpeafaaDoor
