/- numbersText: what the program answers. -/
import Derived.Test.YtpbnjncbbllpdaaZNumbersI
namespace Go.Proofs.Ytpbnjncbbllpdaa
open Go.ChangeShapes Go.WideShapes Go.ChangeAt Go.RowKit
set_option linter.unusedVariables false
set_option maxHeartbeats 400000 in
theorem inumtext (a : Option Addr) (cap : Nat) (l : List Int) (hfit : allFit l) (hl : l.length ≤ 4096) (w : World) (hr : RowV w a (cI l)) : Calls Try.prog 18 #[.slice a l.length cap] w fun e w' => e = .returned (.string ⟨(numsL l).toArray⟩) ∧ Below w.heap.size w w' := by
  obtain ⟨h1, h2⟩ := nb_ok (show ¬ 4096 < l.length by omega) hfit
  have T := hide (inumbersH a cap l (numsL l) 0 h1.symm h2.symm (by omega) w hr)
  obtain ⟨L, hL⟩ : ∃ L, L = numsL l := ⟨_, rfl⟩
  rw [← hL] at T
  have HL := hide hL
  clear h1 h2 hr hL hfit hl
  rw [← unhide HL]
  go_enter Try.func18, Try.ntmps18
  go_wp2_with fail
  refine (unhide T).mono ?_
  rintro e w1 ⟨v, rfl, ho, hb⟩
  have hcv := conv_own (P := Try.prog) Try.underlying26 Try.underlying5 Try.underlying9 ho
  obtain ⟨a1, c1, rfl, -⟩ := own_rowV ho
  have HB := hide hb
  clear ho hb T
  go_wp2_with fail
  go_ret
  exact ⟨rfl, unhide HB⟩
end Go.Proofs.Ytpbnjncbbllpdaa
