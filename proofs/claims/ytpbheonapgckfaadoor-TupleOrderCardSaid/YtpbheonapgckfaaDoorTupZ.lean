/- Package tuple: Sorted, whole. -/
import Derived.Test.YtpbheonapgckfaaDoorTupY
namespace Go.Proofs.YtpbheonapgckfaaDoor
open Go.RowKit Go.Shelf
open SumM

theorem own4_slice {w : World} {base : Nat} {e : TypeId} {v : Value} {n : Nat} {xs : List Value} (h : w.ownsRow base e 4 v n xs) : ∃ a c, v = .slice a n c := by
  rcases h.2 with ⟨rfl, rfl⟩ | ⟨g, cap, cur, rfl, _⟩
  · exact ⟨_, _, rfl⟩
  · exact ⟨_, _, rfl⟩

set_option maxRecDepth 100000 in
set_option maxHeartbeats 2000000 in
theorem collectT_any (Bs len cap : Nat) (a : Option Addr) (us : List Tup) (hl : us.length = len) (hs : len ≤ 1000) (w : World) (hB : Boxed w Bs 27 (.slice a len cap)) (hR : TRow w.heap.size w a us) :
    Calls Tryd.prog 40 #[.func (.func 42) #[] #[.pointer (some ⟨Bs, 0, none⟩)]] w fun e w' =>
      ∃ v', e = .returned v' ∧ w'.ownsRow w.heap.size 25 4 v' len (flatT us) ∧ Below w.heap.size w w' := by
  have K := Lib.hid ((callsIn_wide (n := 3)).1 (appendSeqT_in 3 (by omega) Bs len cap a us hl hs w hB hR))
  clear hl hs hB hR
  go_enter Tryd.func40, Tryd.ntmps40
  go_wp2_with (first | (go_at_call 47; (with_reducible refine K.out.mono ?_); rintro e w1 ⟨v', rfl, O1, m1⟩))
  go_ret
  exact ⟨v', rfl, O1, m1⟩

set_option maxRecDepth 100000 in
set_option maxHeartbeats 2000000 in
theorem sortedFuncT_any (Bs len cap : Nat) (a : Option Addr) (us : List Tup) (hl : us.length = len) (hs : len ≤ 1000) (w : World) (hB : Boxed w Bs 27 (.slice a len cap)) (hR : TRow w.heap.size w a us) :
    Calls Tryd.prog 33 #[.func (.func 42) #[] #[.pointer (some ⟨Bs, 0, none⟩)], .func (.func 13) #[] #[]] w (TRowRet (sortT us) w) := by
  have K := Lib.hid (collectT_any Bs len cap a us hl hs w hB hR)
  have HL := Lib.hid hl
  have HO := Lib.hid hR.1
  clear hl hB hR
  rcases Nat.eq_zero_or_pos len with h0 | h0
  · subst h0
    have hn := fun p c W => AnyF.slices_SortFunc_none { Tryd.sortTup with } p c (.func (.func 13) #[] #[]) W
    change ∀ p c W, Calls Tryd.prog 41 _ _ _ at hn
    obtain rfl : us = [] := List.eq_nil_of_length_eq_zero HL.out
    go_enter Tryd.func33, Tryd.ntmps33
    go_wp2_with (first
      | (go_at_call 40; (with_reducible refine K.out.mono ?_); rintro e w1 ⟨v', rfl, O1, m1⟩; obtain ⟨A, C, rfl⟩ := own4_slice O1)
      | (go_at_call 41; (with_reducible refine (hn A C w1).mono ?_); rintro e w2 ⟨rfl, rfl⟩))
    go_ret
    exact ⟨A, C, rfl, TRow.nil _ _ _, m1⟩
  · have KS := Lib.hid (fun (g C : Nat) (W : World) (hown : W.ownsRow w.heap.size 25 4 (.slice (some ⟨g, 0, none⟩) len C) len (flatT us)) (hb : w.heap.size ≤ g) (hg : g < W.heap.size) => sortFuncT_any len C g us HL.out hs HO.out w.heap.size W hown hb hg)
    go_enter Tryd.func33, Tryd.ntmps33
    go_wp2_with (first
      | (go_at_call 40; (with_reducible refine K.out.mono ?_); rintro e w1 ⟨v', rfl, O1, m1⟩; obtain ⟨g, C, rfl, hg1, hg2⟩ := O1.form (by omega))
      | (go_at_call 41; (with_reducible refine (KS.out g C w1 O1 hg1 hg2).mono ?_); rintro e w2 ⟨rfl, r2, m2⟩))
    go_ret
    have hlen : (sortT us).length = len := by rw [sortT_length, HL.out]
    exact ⟨some ⟨g, 0, none⟩, C, by rw [hlen]; rfl, r2, m1.trans m2⟩

set_option maxRecDepth 100000 in
theorem tSorted_any (a : Option Addr) (len cap : Nat) (us : List Tup) (w : World) (h : TRow w.heap.size w a us) (hl : us.length = len) (hs : len ≤ 1000) :
    Calls Tryd.prog 22 #[.slice a len cap] w (TRowRet (sortT us) w) := by
  have bS := Boxed.new w 27 (.slice a len cap)
  have L0 : Below w.heap.size w (w.alloc (.cells #[.slice a len cap] 27)) := (Below.refl _ w).alloc (Nat.le_refl _) _
  have K := Lib.hid (sortedFuncT_any w.heap.size len cap a us hl hs _ bS ((h.below L0).more (by simp)))
  have KV := Lib.hid ((callsIn_wide (n := 1)).1 (valuesT_in 1 a len cap w))
  have H0 := Lib.hid L0
  clear h hl hs bS L0
  go_enter Tryd.func22, Tryd.ntmps22
  go_wp2_with (first
    | (go_at_call 34; (with_reducible refine KV.out.mono ?_); rintro e w1 ⟨rfl, rfl⟩)
    | (go_at_call 33; (with_reducible refine K.out.mono ?_); rintro e w1 ⟨A, c, rfl, r1, m1⟩))
  go_ret
  exact ⟨A, c, rfl, r1, H0.out.trans (m1.mono H0.out.size)⟩
end Go.Proofs.YtpbheonapgckfaaDoor
