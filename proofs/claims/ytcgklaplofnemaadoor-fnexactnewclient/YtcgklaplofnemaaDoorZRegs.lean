/- One step of the registers. -/
import Derived.Test.YtcgklaplofnemaaDoorZBv
import Derived.Deep.QuietTactic
import Derived.BigQuiet
namespace Go.Proofs.YtcgklaplofnemaaDoor
open Go.ChangeShapes Go.WideShapes Go.ChangeAt Go.RowKit

def bs1 (e : BitVec 32) : BitVec 32 := rot e 6 ^^^ rot e 11 ^^^ rot e 25
def bs0 (a : BitVec 32) : BitVec 32 := rot a 2 ^^^ rot a 13 ^^^ rot a 22
def tOne (e f g y x : BitVec 32) : BitVec 32 := y + bs1 e + (e &&& f ||| ~~~e &&& g) + x
def tTwo (a b c : BitVec 32) : BitVec 32 := bs0 a + (a &&& b ||| a &&& c ||| b &&& c)

theorem wI_add (a b : BitVec 32) : wI (a + b) = (wI a + wI b) % 4294967296 := (w_add a b).symm
theorem sum6 (a b c d e f : BitVec 32) : (wI a + wI b + wI c + wI d + (wI e + wI f)) % 4294967296 = wI (a + b + c + d + (e + f)) := by
  simp only [wI_add]; omega
theorem sum5 (a b c d e : BitVec 32) : (wI a + (wI b + wI c + wI d + wI e)) % 4294967296 = wI (a + (b + c + d + e)) := by
  simp only [wI_add]; omega

set_option maxHeartbeats 1000000 in
set_option maxRecDepth 100000 in
theorem regs33 (a b c d e f g y x : BitVec 32) (w : World) :
    Calls Tryd.prog 67 #[.agg #[.int .u32 (wI a), .int .u32 (wI b), .int .u32 (wI c), .int .u32 (wI d), .int .u32 (wI e), .int .u32 (wI f), .int .u32 (wI g), .int .u32 (wI y)], .int .u32 (wI x)] w fun r w' =>
      r = .returned (.agg #[.int .u32 (wI (tOne e f g y x + tTwo a b c)), .int .u32 (wI a), .int .u32 (wI b), .int .u32 (wI c), .int .u32 (wI (d + tOne e f g y x)), .int .u32 (wI e), .int .u32 (wI f), .int .u32 (wI g)]) ∧ Below w.heap.size w w' := by
  have HT1 := hide (show tOne e f g y x = y + (rot e 6 ^^^ rot e 11 ^^^ rot e 25) + (e &&& f ||| ~~~e &&& g) + x from rfl)
  have HT2 := hide (show tTwo a b c = (rot a 2 ^^^ rot a 13 ^^^ rot a 22) + (a &&& b ||| a &&& c ||| b &&& c) from rfl)
  go_enter Tryd.func67, Tryd.ntmps67
  go_wp2_with fail
  go_quiet (fail)
  go_wp2_with fail
  go_quiet (fail)
  go_wp2_with fail
  refine (turnI e 6 6 rfl (by decide) (by decide) _).mono ?_
  rintro r w1 ⟨rfl, hw⟩
  subst w1
  go_wp2_with fail
  refine (turnI e 11 11 rfl (by decide) (by decide) _).mono ?_
  rintro r w1 ⟨rfl, hw⟩
  subst w1
  go_wp2_with fail
  refine (turnI e 25 25 rfl (by decide) (by decide) _).mono ?_
  rintro r w1 ⟨rfl, hw⟩
  subst w1
  go_wp2_with fail
  refine (turnI a 2 2 rfl (by decide) (by decide) _).mono ?_
  rintro r w1 ⟨rfl, hw⟩
  subst w1
  go_wp2_with fail
  refine (turnI a 13 13 rfl (by decide) (by decide) _).mono ?_
  rintro r w1 ⟨rfl, hw⟩
  subst w1
  go_wp2_with fail
  refine (turnI a 22 22 rfl (by decide) (by decide) _).mono ?_
  rintro r w1 ⟨rfl, hw⟩
  subst w1
  go_wp2_with fail
  simp only [w_xor, w_and, w_or, w_not, sum6, sum5]
  refine bodyPost_ret (v := .agg #[.int .u32 (wI (tOne e f g y x + tTwo a b c)), .int .u32 (wI a), .int .u32 (wI b), .int .u32 (wI c), .int .u32 (wI (d + tOne e f g y x)), .int .u32 (wI e), .int .u32 (wI f), .int .u32 (wI g)]) ?_ rfl ⟨rfl, ?_⟩
  · rw [unhide HT1, unhide HT2]
    simp [results, Tryd.results67, go_sem]
  · repeat (refine Below.setCell ?_ (by simp) _)
    exact below_drewN (((Below.refl _ _).alloc (Nat.le_refl _) _).alloc (by simp) _) _
end Go.Proofs.YtcgklaplofnemaaDoor
