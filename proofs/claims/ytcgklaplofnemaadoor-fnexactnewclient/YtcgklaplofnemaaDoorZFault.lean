/- What is wrong with a string that should be a hash. -/
import Derived.Test.YtcgklaplofnemaaDoorZBase
namespace Go.Proofs.YtcgklaplofnemaaDoor
open Go.ChangeShapes Go.WideShapes Go.ChangeAt Go.RowKit

def faultOf (n : Nat) : Int := if 65536 < n then 2 else if n = 32 then 0 else 1
def htS (s t : ByteArray) : ByteArray := if s.size = 32 then t else ⟨#[]⟩
theorem fault_long {s : ByteArray} (t : ByteArray) (h : 65536 < s.size) : faultOf s.size = 2 ∧ htS s t = ⟨#[]⟩ := by
  unfold faultOf htS; rw [if_pos h, if_neg (by omega)]; exact ⟨rfl, rfl⟩
theorem fault_bad {s : ByteArray} (t : ByteArray) (h : ¬ 65536 < s.size) (h2 : ¬ s.size = 32) : faultOf s.size = 1 ∧ htS s t = ⟨#[]⟩ := by
  unfold faultOf htS; rw [if_neg h, if_neg h2, if_neg h2]; exact ⟨rfl, rfl⟩
theorem fault_ok {s : ByteArray} (t : ByteArray) (h : s.size = 32) : faultOf s.size = 0 ∧ htS s t = t := by
  unfold faultOf htS; rw [if_neg (by omega), if_pos h, if_pos h]; exact ⟨rfl, rfl⟩
theorem fault_not {s : ByteArray} (t : ByteArray) (h : ¬ s.size = 32) : (faultOf s.size != 0) = true ∧ htS s t = ⟨#[]⟩ := by
  by_cases a : 65536 < s.size
  · have := fault_long t a; exact ⟨by rw [this.1]; rfl, this.2⟩
  · have := fault_bad t a h; exact ⟨by rw [this.1]; rfl, this.2⟩

theorem fault13 (s : ByteArray) (hs : s.size ≤ 1048576) (w : World) :
    Calls Tryd.prog 51 #[.string s] w fun e w' => e = .returned (.int .i64 (faultOf s.size)) ∧ w' = w := by
  by_cases a : 65536 < s.size
  · have HV := hide (fault_long s a).1
    go_enter Tryd.func51, Tryd.ntmps51
    go_wp2_with fail
    go_ret
    rw [unhide HV]
    exact ⟨rfl, rfl⟩
  by_cases b : s.size = 32
  · have HV := hide (fault_ok s b).1
    have b2 : ((s.size : Int) != 32) = false := by simp; omega
    clear b
    go_enter Tryd.func51, Tryd.ntmps51
    go_wp2_with fail
    go_ret
    rw [unhide HV]
    exact ⟨rfl, rfl⟩
  · have HV := hide (fault_bad s a b).1
    have b2 : ((s.size : Int) != 32) = true := by simp; omega
    go_enter Tryd.func51, Tryd.ntmps51
    go_wp2_with fail
    go_ret
    rw [unhide HV]
    exact ⟨rfl, rfl⟩
end Go.Proofs.YtcgklaplofnemaaDoor
