/- l00Number: what the specification answers. -/
import Derived.Test.YtofkdkglohllpaaGreatDoorZNumBn
import Derived.Test.YtofkdkglohllpaaGreatDoorZNumBp
namespace Go.Proofs.YtofkdkglohllpaaGreatDoor
open Go.ChangeShapes Go.WideShapes Go.ChangeAt Go.RowKit
set_option linter.unusedVariables false
set_option maxHeartbeats 4000000 in
set_option maxRecDepth 100000 in
theorem snumB (s : ByteArray) (HS : Hid (s.size ≤ 65536)) (b : Bool) (Hb : Hid (b = nvB s.data.toList)) (x : Int) (HX : Hid (x = if b then nvV s.data.toList else 0)) (w : World) :
    Calls Tryz.prog 40 #[.string s] w fun e w' => e = .returned (.tuple #[.int .i64 x, .bool b]) ∧ w' = w := by
  have hs6 := unhide HS
  by_cases s0 : s.size = 0
  · have s1 : ¬ (0 : Int) < (s.size : Int) := by omega
    have NA := hide (show NvAt s s false from ⟨by unfold nvD; rw [nvG_zero s0]; rfl, nvG_zero s0⟩)
    have z1 : ((s.size : Int) == 0) = true := by simp [s0]
    have hb : b = false := by rw [unhide Hb]; exact nv_zero (unhide NA) s0
    subst hb
    have hx : x = 0 := unhide HX
    subst hx
    clear Hb HX
    clear s0
    go_enter Tryz.func40, Tryz.ntmps40
    go_wp2_with fail
    go_ret2
    exact ⟨rfl, rfl⟩
  have s1 : (0 : Int) < (s.size : Int) := by omega
  have s2 : 0 < s.size := by omega
  by_cases g : s[0].toNat = 45
  · have NA0 : NvAt s (s.extract 1 s.size) true := by
      have hg : nvG s.data.toList = true := by rw [nvG_pos s2]; simp [g]
      refine ⟨?_, hg⟩
      unfold nvD
      rw [hg]
      simp only [if_true, ByteArray.data_extract, Array.toList_extract, List.extract_eq_take_drop]
      rw [List.take_of_length_le (by simp), List.drop_one]
    exact snumB_neg s HS _ rfl (hide NA0) s1 s2 (by omega) (by simp [g]) b Hb x HX w
  · have hg : nvG s.data.toList = false := by rw [nvG_pos s2]; simp [g]
    exact snumB_pos s HS (hide ⟨by unfold nvD; rw [hg]; rfl, hg⟩) s1 s2 (by simp; omega) b Hb x HX w
end Go.Proofs.YtofkdkglohllpaaGreatDoor
