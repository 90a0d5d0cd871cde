/- From a contract of a call that starts nobody to what a row asks that says 'leaving': one good run from every start. Nothing of the program is imported. -/
import Derived.Conc.LeavingOf
import Derived.Conc.HoldsTime
import Derived.LoneHanded
import Derived.CallAlone
namespace Go.Proofs.Ytklmlpnccbmpnaa
open Go.Conc

theorem good_of_calls {P : Program} {f : FuncId} {args : Array Value} {W : World} {R : Ending → World → Prop} {Post : Value → World → Prop} (noInit : P.inits.idxOf? f = none) (h : Calls P f args W R)
    (hR : ∀ e w', R e w' → ∃ v, e = .returned v ∧ Post v w') :
    ∃ M last o w' t', runNT P (M + 1) (solo (G (Frame.enter P f args .normal) []) W) #[] = (.ended o w', t') ∧ runN P M (solo (G (Frame.enter P f args .normal) []) W) = .next last ∧ step P last = .ended o w' ∧ Conc.Good P Post last o w' t' := by
  have h2 : Calls P f args W fun | .returned v, w' => Post v w' | _, _ => False := h.mono fun e w' he => by
    obtain ⟨v, rfl, hp⟩ := hR e w' he
    exact hp
  obtain ⟨n, v, w', fr, hn, hend, hp⟩ := h2.done_lone noInit
  have hs := step_of_runs hn hend
  refine ⟨n, lone fr [] w', .done v, w', (runNT P (n + 1) (lone (Frame.enter P f args .normal) [] W) #[]).2, ?_, hn, hs, v, rfl, hp, fun said => (no_race_of_lone P n _ _ hn (by simp [lone]) rfl).2, handedOver_of_lone hn, onlyLeaving_of_quiet (quiet_lone fr [] w'), ?_⟩
  · exact Prod.ext (by rw [runNT_fst]; exact hend) rfl
  · intro i g hg hi
    rcases i with _ | i
    · exact absurd rfl hi
    · simp [lone] at hg
end Go.Proofs.Ytklmlpnccbmpnaa
