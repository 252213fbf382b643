/- l02Number: the bytes of a number. -/
import Derived.Test.YtpbnjncbbllpdaaZNumM
namespace Go.Proofs.Ytpbnjncbbllpdaa
open Go.ChangeShapes Go.WideShapes Go.ChangeAt Go.RowKit
theorem Try.infS5 : (Try.prog.info? 5).map (fun i => (i.zero, i.size, i.bytes)) = some (some (.int .u8 0), 1, 1) := by kernel_rfl
set_option maxHeartbeats 400000 in
set_option maxRecDepth 100000 in
theorem snumber (n size : Nat) (_hn : n < 4294967296) (hs : size ≤ 4) (w : World) :
    Calls Try.prog 30 #[.int .i64 (n : Int), .int .i64 (size : Int)] w fun e w' => ∃ v', e = .returned v' ∧ w'.ownsRow w.heap.size 5 1 v' (be n size).length (B8 (be n size)) ∧ Below w.heap.size w w' := by
  obtain ⟨i0, hi, hz0, hz1, hz2⟩ := info_parts Try.infS5
  go_enter Try.func30, Try.ntmps30
  go_wp2_with fail
  go_loopw [5, 6] (fun v i wr => ∃ (b : Nat) (m : List UInt8), b ≤ size ∧ i = .int .i64 ((b : Int) - 1) ∧ Hid (m ++ be n b = be n size) ∧ m.length + b ≤ 4 ∧ Hid (wr.ownsRow w.heap.size 5 1 v m.length (B8 m)) ∧ Hid (Below w.heap.size w wr)) (fun _ i _ => (intOf i + 1).toNat)
  case atStart => exact ⟨size, [], Nat.le_refl _, by go_num, rfl, by simpa using hs, lit_empty w _ _ (Nat.le_refl _), (Below.refl _ _).alloc (Nat.le_refl _) _⟩
  case round =>
    obtain ⟨b, m, hbs, rfl, HM, hm, HO, HB⟩ := hrel
    by_cases hb0 : b = 0
    · subst hb0
      have HV : Hid (be n size = m) := by show _ = _; have := unhide HM; simpa [be] using this.symm
      go_wp2_with fail
      go_ret
      exact ⟨_, rfl, by rw [unhide HV]; exact unhide HO, unhide HB⟩
    · obtain ⟨k, rfl⟩ : ∃ k, b = k + 1 := ⟨b - 1, by omega⟩
      have hk : (k : Int) ≤ 3 := by omega
      have hv := nb_val n k
      have hown := unhide HO
      have hz := (unhide HB).size
      clear HO
      go_wp2_with (at_builtin; refine wpList_append_lies _ rfl (.tmp 14) (.tmp 21) 26 rfl w.heap.size 5 i0 (.int .u8 0) 1 1 Try.underlying26 hi hz0 hz1 hz2 rfl (by decide) _ _ _ rfl (hown.alloc _) ⟨wr.heap.size, 0, none⟩ 1 1 (B8 [nb n k]) rfl rfl (by exact news_new wr (B8 [nb n k]) 5) (B8_one _) (by decide) (by unfold maxLen; omega) (by omega) (by simp; omega) _ rfl ?_; intro g2 c2 w2 hown2 hgrow2 hat2 hlt2; have HB2 := hide (below_app (unhide HB) (by omega) hown (Nat.le_refl _) hgrow2); have HO2 : Hid (w2.ownsRow w.heap.size 5 1 (.slice (some ⟨g2, 0, none⟩) (m.length + 1) c2) (m ++ [nb n k]).length (B8 (m ++ [nb n k]))) := own_app hown2 rfl; clear hown2 hgrow2 hat2 hlt2 hown HB hv)
      go_roundw
      case rel => exact ⟨k, m ++ [nb n k], by omega, by go_num, by show _ = _; rw [← unhide HM]; simp [be], by rw [List.length_append]; simp; omega, HO2, HB2⟩
      case measure => simp [intOf]
end Go.Proofs.Ytpbnjncbbllpdaa
