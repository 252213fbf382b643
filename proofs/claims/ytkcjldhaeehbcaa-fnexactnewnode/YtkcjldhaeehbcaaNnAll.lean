/- All that the walk names. -/
import Derived.Test.YtkcjldhaeehbcaaNdL
import Derived.Test.YtkcjldhaeehbcaaNnR
import Derived.Test.YtkcjldhaeehbcaaNnJ
import Derived.Test.YtkcjldhaeehbcaaNnT
namespace Go.Proofs.Ytkcjldhaeehbcaa
theorem new_ex (id nd : Int) : ∃ (i0 i1 i3 i9 : Int) (u : Bool) (lx lg : List Int) (c : Int), NewIs id nd i0 i1 i3 i9 u lx lg c ∧ lx.length ≤ 5 ∧ lg.length ≤ 5 := by
  cases h : (inB nd 1 5 && inB id 0 (nd - 1)) with
  | false => exact ⟨0, 0, 0, 0, false, [], [], 4, by unfold NewIs; rw [h]; simp, by simp, by simp⟩
  | true =>
    have h1 : 1 ≤ nd ∧ nd ≤ 5 := by
      simp only [Bool.and_eq_true] at h
      have := h.1
      unfold inB at this
      simpa using this
    exact ⟨id, nd, -1, 5 + id, true, List.replicate nd.toNat 1, List.replicate nd.toNat 0, 0, by unfold NewIs; rw [h]; simp, by simp; omega, by simp; omega⟩
end Go.Proofs.Ytkcjldhaeehbcaa
