/- Texts put together: HexS InS. -/
import Derived.Test.YtilnpkonhbmdpaaDoorZG16
import Derived.Test.YtilnpkonhbmdpaaDoorZG2
/- Hashes as digits: what the text of the specification makes of every string. -/
namespace Go.Proofs.YtilnpkonhbmdpaaDoor
open Go.ChangeShapes Go.WideShapes Go.ChangeAt Go.RowKit

set_option maxHeartbeats 400000 in
set_option maxRecDepth 100000 in
theorem hex12 (s : ByteArray) (hs : s.size ≤ 1048576) (w : World) :
    Calls Tryd.prog 33 #[.string s] w fun e w' => e = .returned (.string ⟨(hexL s.data.toList).toArray⟩) ∧ Below w.heap.size w w' := by
  obtain ⟨i0, hi, hz0, hz1, hz2⟩ := info_parts Tryd.info5
  go_enter Tryd.func33, Tryd.ntmps33
  go_wp2_with fail
  go_loopw [3, 4] (fun v i wr => ∃ k : Nat, k ≤ s.size ∧ i = .int .i64 k ∧ wr.ownsRow w.heap.size 5 1 v (hexL (s.data.toList.take k)).length (B8 (hexL (s.data.toList.take k))) ∧ Below w.heap.size w wr) (fun _ i _ => s.size - (intOf i).toNat)
  case atStart => exact ⟨0, by omega, rfl, World.ownsRow_lit _ #[] 0 (Nat.le_refl _) (by decide) rfl, (Below.refl _ _).alloc (Nat.le_refl _) _⟩
  case round =>
    obtain ⟨k, hk, rfl, hown, hb⟩ := hrel
    by_cases hlt : k < s.size
    · have hlt' : (k : Int) < (s.size : Int) := by omega
      have c0 : (0 : Int) ≤ (s[k].toNat : Int) := by omega
      have c1 : (s[k].toNat : Int) ≤ 255 := by have := s[k].toNat_lt; omega
      have q1 : IntKind.u8.wrap ((s[k].toNat : Int) / 16) = (s[k].toNat : Int) / 16 := wrap8 _ (by omega) (by omega)
      have q2 : IntKind.u8.wrap ((s[k].toNat : Int) % 16) = (s[k].toNat : Int) % 16 := wrap8 _ (by omega) (by omega)
      have q3 : (s[k].toNat : Int) / 16 < 16 := by omega
      have q4 : (s[k].toNat : Int) % 16 < 16 := by omega
      have q5 : 0 ≤ (s[k].toNat : Int) / 16 := by omega
      have q6 : 0 ≤ (s[k].toNat : Int) % 16 := by omega
      have q7 : (s[k].toNat : Int).tmod 16 = (s[k].toNat : Int) % 16 := Int.tmod_eq_emod_of_nonneg c0
      have d1 : ∀ h : ((s[k].toNat : Int) / 16).toNat < hexs.size, hexs[((s[k].toNat : Int) / 16).toNat]'h = hexDig (s[k].toNat / 16) := fun h => hex_get _ h
      have d2 : ∀ h : ((s[k].toNat : Int) % 16).toNat < hexs.size, hexs[((s[k].toNat : Int) % 16).toNat]'h = hexDig (s[k].toNat % 16) := fun h => hex_get _ h
      unfold hexs at d1 d2
      have hz := hb.size
      have hl2 := hexL_len (s.data.toList.take k)
      have hl3 : (s.data.toList.take k).length ≤ k := List.length_take_le _ _
      have HL : Hid ((hexL (s.data.toList.take k)).length ≤ 2 * k) := by show _ ≤ _; omega
      clear hl2 hl3
      go_wp2_with fail
      go_region_held3 (fun _ => True) (trivial) ((refine step_append_lies _ rfl _ _ 71 rfl w.heap.size 5 i0 (.int .u8 0) 1 1 Tryd.underlying71 hi hz0 hz1 hz2 rfl (by decide) _ _ _ rfl (by exact hown.alloc _) ⟨wr.heap.size, 0, none⟩ 2 2 (B8 (hexTwo s[k])) rfl rfl (by exact news_drew wr (B8 (hexTwo s[k])) 5) (B8_one _) (by decide) (by have := unhide HL; unfold maxLen; omega) (by have := unhide HL; omega) (by simp; omega) _ rfl ?_; intro g cap w1 hown1 hgrow1 hat1 hlt1))
      all_goals
        have R := hex_rel hlt hown hb hown1 hgrow1
        clear hown1 hgrow1 hown hb hat1 hlt1 d1 d2 q1 q2 q7
        go_wp2_with fail
        go_roundw
        case rel => exact ⟨k + 1, by omega, by go_num, R.1, R.2⟩
        case measure => simp [intOf]; omega
    · have hcv := conv_own (P := Tryd.prog) Tryd.underlying71 Tryd.underlying5 Tryd.underlying9 hown
      rw [take_all s k (by omega)] at hcv
      clear hown
      go_wp2_with fail
      go_ret
      exact ⟨rfl, hb⟩
end Go.Proofs.YtilnpkonhbmdpaaDoor

/- l01In, l03RuneOK: what the specification answers. -/
namespace Go.Proofs.YtilnpkonhbmdpaaDoor
open Go.ChangeShapes Go.WideShapes Go.ChangeAt Go.RowKit
set_option linter.unusedVariables false
theorem rune_parts (n : Int) : runeB n = (inB n 0 1114111 && !(inB n 55296 57343) && decide (32 ≤ n) && (n != 127)) := by
  unfold runeB inB; rw [Bool.eq_iff_iff]; simp; omega
set_option maxHeartbeats 400000 in
set_option maxRecDepth 100000 in
theorem sin (n a b : Int) (w : World) : Calls Tryd.prog 18 #[.int .i64 n, .int .i64 a, .int .i64 b] w fun e w' => e = .returned (.bool (inB n a b)) ∧ w' = w := by
  by_cases h : a ≤ n
  · by_cases h2 : n ≤ b
    · go_enter Tryd.func18, Tryd.ntmps18
      go_wp2_with fail
      go_ret
      exact ⟨ret_bool (b_true ⟨h, h2⟩), rfl⟩
    · go_enter Tryd.func18, Tryd.ntmps18
      go_wp2_with fail
      go_ret
      exact ⟨ret_bool (b_false (by omega)), rfl⟩
  · go_enter Tryd.func18, Tryd.ntmps18
    go_wp2_with fail
    go_ret
    exact ⟨ret_bool (b_false (by omega)), rfl⟩
set_option maxHeartbeats 400000 in
set_option maxRecDepth 100000 in
theorem sruneok (n : Int) (w : World) : Calls Tryd.prog 55 #[.int .i64 n] w fun e w' => e = .returned (.bool (inB n 0 1114111 && !(inB n 55296 57343))) ∧ w' = w := by
  cases h : inB n 0 1114111 <;> cases h2 : inB n 55296 57343
  all_goals
    go_enter Tryd.func55, Tryd.ntmps55
    go_wp2_with (go_at_call 18; refine (sin _ _ _ _).mono ?_; rintro e w2 ⟨rfl, hw⟩; subst w2; first | rw [h] | rw [h2])
    go_ret
    exact ⟨rfl, rfl⟩
end Go.Proofs.YtilnpkonhbmdpaaDoor
