/- Plain facts on what is merged in parts. -/
import Derived.Test.YtpeaakcapfjncaaEyW
namespace Go.Proofs.Ytpeaakcapfjncaa
open Go.RowKit Go.Shelf
open SumM

theorem mgS_append (a b : List Ent) : mgS (a ++ b) = b.foldl mgStep (mgS a) := by simp [mgS, List.foldl_append]
theorem step_no {o : Ent × Bool} {u : Ent} (h : rgE u = false) : mgStep o u = o := by simp [mgStep, h]
theorem step_le {o : Ent × Bool} {u : Ent} (h : o.2 = true) (hu : u.2.2.1 ≤ o.1.2.2.1) : mgStep o u = o := by
  unfold mgStep
  rw [if_neg]
  simp only [Bool.and_eq_true, Bool.or_eq_true, Bool.not_eq_true', decide_eq_true_eq, not_and, not_or, h]
  exact fun _ => ⟨by simp, by omega⟩
theorem step_gt {o : Ent × Bool} {u : Ent} (h : rgE u = true) (hu : o.2 = false ∨ o.1.2.2.1 < u.2.2.1) : mgStep o u = (u, true) := by
  unfold mgStep
  rw [if_pos]
  simp only [Bool.and_eq_true, Bool.or_eq_true, Bool.not_eq_true', decide_eq_true_eq]
  exact ⟨h, hu⟩
/-- What none may be newer than stays. -/
theorem fold_stay (l : List Ent) {o : Ent × Bool} (h : o.2 = true) (hl : ∀ u ∈ l, rgE u = true → u.2.2.1 ≤ o.1.2.2.1) : l.foldl mgStep o = o := by
  induction l with
  | nil => rfl
  | cons u r ih =>
    have e : mgStep o u = o := by
      by_cases hu : rgE u = true
      · exact step_le h (hl u (by simp) hu)
      · exact step_no (by simpa using hu)
    rw [List.foldl_cons, e]
    exact ih (fun v hv => hl v (by simp [hv]))
theorem fold_none (l : List Ent) {o : Ent × Bool} (hl : ∀ u ∈ l, rgE u = false) : l.foldl mgStep o = o := by
  induction l with
  | nil => rfl
  | cons u r ih =>
    rw [List.foldl_cons, step_no (hl u (by simp))]
    exact ih (fun v hv => hl v (by simp [hv]))
/-- It does not grow older. -/
theorem fold_up (l : List Ent) {o : Ent × Bool} (h : o.2 = true) : (l.foldl mgStep o).2 = true ∧ o.1.2.2.1 ≤ (l.foldl mgStep o).1.2.2.1 := by
  induction l generalizing o with
  | nil => exact ⟨h, Int.le_refl _⟩
  | cons u r ih =>
    rw [List.foldl_cons]
    by_cases hu : rgE u = true
    · by_cases hg : o.1.2.2.1 < u.2.2.1
      · rw [step_gt hu (.inr hg)]
        have := ih (o := (u, true)) rfl
        exact ⟨this.1, Int.le_trans (Int.le_of_lt hg) this.2⟩
      · rw [step_le h (by omega)]
        exact ih h
    · rw [step_no (by simpa using hu)]
      exact ih h
theorem mgS_max {l : List Ent} {u : Ent} (hu : u ∈ l) (hr : rgE u = true) : (mgS l).2 = true ∧ u.2.2.1 ≤ (mgS l).1.2.2.1 := by
  obtain ⟨a, b, rfl⟩ := List.append_of_mem hu
  rw [mgS_append, List.foldl_cons]
  by_cases ho : (mgS a).2 = false ∨ (mgS a).1.2.2.1 < u.2.2.1
  · rw [step_gt hr ho]
    exact fold_up b rfl
  · have h2 : (mgS a).2 = true := by
      cases h : (mgS a).2
      · exact absurd (.inl h) ho
      · rfl
    have h3 : u.2.2.1 ≤ (mgS a).1.2.2.1 := by
      have : ¬ (mgS a).1.2.2.1 < u.2.2.1 := fun h => ho (.inr h)
      omega
    rw [step_le h2 h3]
    have := fold_up b h2
    exact ⟨this.1, Int.le_trans h3 this.2⟩
theorem mgS_any (l : List Ent) : (mgS l).2 = l.any rgE := by
  cases h : l.any rgE
  · have hn : ∀ u ∈ l, rgE u = false := by simpa using h
    unfold mgS
    rw [fold_none l hn]
  · obtain ⟨u, hu, hr⟩ := List.any_eq_true.1 h
    exact (mgS_max hu hr).1

/-- In parts. -/
theorem merge_rest (a b : List Ent) (h : a.any rgE = false) : mgS b = mgS (a ++ b) := by
  have hn : ∀ u ∈ a, rgE u = false := by simpa using h
  rw [mgS_append]
  unfold mgS
  rw [fold_none a hn]
theorem merge_head (a b : List Ent) (h : a.any rgE = true) : mgS ((mgS a).1 :: b) = mgS (a ++ b) := by
  rw [← mgS_any] at h
  have hr := mgS_right a h
  rw [mgS_append]
  show b.foldl mgStep (mgStep (noEnt, false) (mgS a).1) = _
  rw [step_gt hr (.inl rfl)]
  congr 1
  rw [← h]
theorem merge_twice (x : Ent) (h : rgE x = true) : mgS [x, x] = (x, true) := by
  show mgStep (mgStep (noEnt, false) x) x = _
  have e : mgStep (noEnt, false) x = (x, true) := step_gt h (.inl rfl)
  rw [e]
  exact step_le rfl (Int.le_refl _)

/-- Whether one of the newest Gen has come so far. -/
def smK (us : List Ent) (k : Nat) : Bool := (mgS (us.take k)).2 && decide ((mgS (us.take k)).1.2.2.1 = (mgS us).1.2.2.1)
theorem smK_zero (us : List Ent) : smK us 0 = false := by simp [smK, mgS]
theorem smK_end (us : List Ent) : smK us us.length = (mgS us).2 := by simp [smK]
theorem smK_all {us : List Ent} {k : Nat} (h : smK us k = true) : (mgS (us.take k)).1 = (mgS us).1 := by
  unfold smK at h
  simp only [Bool.and_eq_true, decide_eq_true_eq] at h
  have e : mgS us = (us.drop k).foldl mgStep (mgS (us.take k)) := by rw [← mgS_append, List.take_append_drop]
  have hs : (us.drop k).foldl mgStep (mgS (us.take k)) = mgS (us.take k) := fold_stay _ h.1 (fun u hu hr => by
    rw [h.2]
    exact (mgS_max (List.mem_of_mem_drop hu) hr).2)
  rw [e, hs]
theorem smK_no {us : List Ent} {k : Nat} (hk : k < us.length) (h : rgE (us[k]?.getD ent0) = false) : smK us (k + 1) = smK us k := by
  unfold smK
  rw [mgS_take hk, step_no h]
theorem smK_yes {us : List Ent} {k : Nat} (hk : k < us.length) (h : rgE (us[k]?.getD ent0) = true) :
    (us[k]?.getD ent0).2.2.1 ≤ (mgS us).1.2.2.1 ∧ (smK us k = false → (us[k]?.getD ent0).2.2.1 = (mgS us).1.2.2.1 → us[k]?.getD ent0 = (mgS us).1) ∧
    smK us (k + 1) = (smK us k || decide ((us[k]?.getD ent0).2.2.1 = (mgS us).1.2.2.1)) := by
  have hm : us[k]?.getD ent0 ∈ us := by
    rw [List.getElem?_eq_getElem hk]
    exact List.getElem_mem hk
  have h1 := (mgS_max hm h).2
  have hup : (mgS (us.take k)).2 = true → (mgS (us.take k)).1.2.2.1 ≤ (mgS us).1.2.2.1 := fun h2 => by
    have e : mgS us = (us.drop k).foldl mgStep (mgS (us.take k)) := by rw [← mgS_append, List.take_append_drop]
    rw [e]
    exact (fold_up _ h2).2
  have hnew : smK us k = false → (us[k]?.getD ent0).2.2.1 = (mgS us).1.2.2.1 → mgS (us.take (k + 1)) = (us[k]?.getD ent0, true) := fun hs hg => by
    rw [mgS_take hk]
    refine step_gt h ?_
    unfold smK at hs
    cases h2 : (mgS (us.take k)).2
    · exact .inl rfl
    · rw [h2] at hs
      simp at hs
      have := hup h2
      exact .inr (by omega)
  refine ⟨h1, fun hs hg => ?_, ?_⟩
  · have e := hnew hs hg
    have ht : smK us (k + 1) = true := by
      unfold smK
      rw [e]
      simp [hg]
    have := smK_all ht
    rw [e] at this
    exact this
  · cases hs : smK us k
    · by_cases hg : (us[k]?.getD ent0).2.2.1 = (mgS us).1.2.2.1
      · have e := hnew hs hg
        unfold smK
        rw [e]
        simp [hg]
      · unfold smK
        rw [mgS_take hk]
        by_cases ho : (mgS (us.take k)).2 = false ∨ (mgS (us.take k)).1.2.2.1 < (us[k]?.getD ent0).2.2.1
        · rw [step_gt h ho]
          simp [hg]
        · have h2 : (mgS (us.take k)).2 = true := by
            cases h3 : (mgS (us.take k)).2
            · exact absurd (.inl h3) ho
            · rfl
          rw [step_le h2 (by have : ¬ (mgS (us.take k)).1.2.2.1 < (us[k]?.getD ent0).2.2.1 := fun h => ho (.inr h); omega)]
          have : smK us k = false := hs
          unfold smK at this
          rw [this]
          simp [hg]
    · have hs2 := hs
      unfold smK at hs2
      simp only [Bool.and_eq_true, decide_eq_true_eq] at hs2
      unfold smK
      rw [mgS_take hk, step_le hs2.1 (by rw [hs2.2]; exact h1)]
      simp [hs2.1, hs2.2]
end Go.Proofs.Ytpeaakcapfjncaa
