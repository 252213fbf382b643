/- The size of a list of texts, as the laws reckon it. -/
import Derived.Test.YteeklocaaidimaaStrS
namespace Go.Proofs.Yteeklocaaidimaa
open Go.ChangeShapes Go.WideShapes Go.ChangeAt Go.RowKit
set_option maxHeartbeats 400000 in
set_option maxRecDepth 100000 in
theorem sizeStr (a : Option Addr) (cap : Nat) (l : List ByteArray) (Y : Nat) (hY : Y ≤ 1048576) (hl : l.length ≤ maxLen) (hsz : ∀ k (h : k < l.length), l[k].size ≤ maxLen) (w : World) (hr : RowV w a (cS l)) :
    Calls Try.prog 12 #[.slice a l.length cap, .int .i64 (Y : Int)] w fun e w' => ∃ x : Int, e = .returned (.int .i64 x) ∧ w' = w ∧ (x = -1 ∨ (0 ≤ x ∧ l.length ≤ 1048576 ∧ ∀ k (h : k < l.length), l[k].size ≤ 1048576)) := by
  have HR := hide hr
  have HZ := hide hsz
  have HCL := hide (cS_len l)
  have hl2 : (l.length : Int) ≤ 9223372036854775807 := by unfold maxLen at hl; omega
  clear hr hsz hl
  by_cases big : Y < l.length
  · have b1 : (Y : Int) - (l.length : Int) < 0 := by omega
    go_enter Try.func12, Try.ntmps12
    go_wp2_with fail
    go_ret
    exact ⟨_, rfl, rfl, .inl rfl⟩
  · have hb : l.length ≤ Y := by omega
    go_enter Try.func12, Try.ntmps12
    go_wp2_with fail
    go_loop [1, 5] (fun s i => ∃ (k y : Nat), k ≤ l.length ∧ i = .int .i64 k ∧ s = .int .i64 (y : Int) ∧ y ≤ 1048576 ∧ Hid (∀ q (h : q < l.length), q < k → l[q].size ≤ 1048576)) (fun _ i => l.length - (intOf i).toNat)
    case atStart => exact ⟨0, Y - l.length, by omega, rfl, by go_num, by omega, fun q _ h => absurd h (Nat.not_lt_zero _)⟩
    case round =>
      obtain ⟨k, y, hk, rfl, rfl, hy, HF⟩ := hrel
      by_cases hlt : k < l.length
      · obtain ⟨b, off, ha, hblt, hc⟩ := (unhide HR).at (by rw [unhide HCL]; omega)
        subst ha
        have hc1 : w.cell? ⟨b, off + k, none⟩ = some (.string l[k]) := hc k _ (cS_at l k hlt)
        have hlt' : (k : Int) < (l.length : Int) := by omega
        have hsk : (l[k].size : Int) ≤ 9223372036854775807 := by have := unhide HZ k hlt; unfold maxLen at this; omega
        by_cases hf : l[k].size ≤ y
        · have HF2 : Hid (∀ q (h : q < l.length), q < k + 1 → l[q].size ≤ 1048576) := fun q h hq => by
            by_cases e : q = k
            · subst e; omega
            · exact unhide HF q h (by omega)
          clear hc HR HCL HF HZ
          go_wp2_with fail
          go_round
          case rel => exact ⟨k + 1, y - l[k].size, by omega, by go_num, by go_num, by omega, HF2⟩
          case measure => simp [intOf]; omega
        · clear hc
          go_wp2_with fail
          go_ret
          exact ⟨_, rfl, rfl, .inl rfl⟩
      · have HF2 : Hid (∀ q (h : q < l.length), l[q].size ≤ 1048576) := fun q h => unhide HF q h (by omega)
        go_wp2_with fail
        go_ret
        exact ⟨(y : Int), rfl, rfl, .inr ⟨Int.natCast_nonneg _, by omega, unhide HF2⟩⟩
theorem size6 (a : Option Addr) (cap : Nat) (l : List ByteArray) (hl : l.length ≤ maxLen) (hsz : ∀ k (h : k < l.length), l[k].size ≤ maxLen) (w : World) (hr : RowV w a (cS l)) :
    Calls Try.prog 12 #[.slice a l.length cap, .int .i64 1048576] w fun e w' => ∃ x : Int, e = .returned (.int .i64 x) ∧ w' = w ∧ (x = -1 ∨ (0 ≤ x ∧ l.length ≤ 1048576 ∧ ∀ k (h : k < l.length), l[k].size ≤ 1048576)) :=
  sizeStr a cap l 1048576 (Nat.le_refl _) hl hsz w hr
end Go.Proofs.Yteeklocaaidimaa
