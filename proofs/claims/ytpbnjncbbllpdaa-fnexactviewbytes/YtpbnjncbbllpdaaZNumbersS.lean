/- NumbersBytes: what the specification answers at every list. -/
import Derived.Test.YtpbnjncbbllpdaaZG12
import Derived.Test.YtpbnjncbbllpdaaZAppS
import Derived.Test.YtpbnjncbbllpdaaZAppendAny
namespace Go.Proofs.Ytpbnjncbbllpdaa
open Go.ChangeShapes Go.WideShapes Go.ChangeAt Go.RowKit
theorem Try.infZ5 : (Try.prog.info? 5).map (fun i => (i.zero, i.size, i.bytes)) = some (some (.int .u8 0), 1, 1) := by kernel_rfl
set_option maxHeartbeats 400000 in
set_option maxRecDepth 100000 in
theorem snums (a : Option Addr) (cap : Nat) (l : List Int) (hl : l.length ≤ 4096) (hfit : allFit l) (w : World) (hr : RowV w a (cI l)) :
    Calls Try.prog 28 #[.slice a l.length cap] w fun e w' => ∃ v', e = .returned v' ∧ w'.ownsRow w.heap.size 5 1 v' (numsL l).length (B8 (numsL l)) ∧ Below w.heap.size w w' := by
  obtain ⟨i0, hi, hz0, hz1, hz2⟩ := info_parts Try.infZ5
  have HR := hide hr
  have HCL := hide (cI_len l)
  have HFT := hide hfit
  clear hr hfit
  go_enter Try.func28, Try.ntmps28
  go_wp2_with fail
  go_loopw [3, 4] (fun v i wr => ∃ (k : Nat) (m : List UInt8) (g c : Nat), k ≤ l.length ∧ i = .int .i64 k ∧ Hid (m = numsL (l.take k)) ∧ m.length ≤ 12288 ∧ v = .slice (some ⟨g, 0, none⟩) m.length c ∧ Hid (wr.ownsRow w.heap.size 5 1 (.slice (some ⟨g, 0, none⟩) m.length c) m.length (B8 m)) ∧ Hid (Below w.heap.size w wr)) (fun _ i _ => l.length - (intOf i).toNat)
  case atStart => exact ⟨0, [], w.heap.size, 0, by omega, rfl, rfl, by simp, rfl, lit_empty w _ _ (Nat.le_refl _), (Below.refl _ _).alloc (Nat.le_refl _) _⟩
  case round =>
    obtain ⟨k, m, g, c, hk, rfl, HM, hm, rfl, HO, HB⟩ := hrel
    by_cases hlt : k < l.length
    · obtain ⟨b, off, ha, hblt, hc⟩ := (unhide HR).at (by rw [unhide HCL]; omega)
      subst ha
      have hc1 : wr.cell? ⟨b, off + k, none⟩ = some (.int .i64 l[k]) := ((unhide HB).cell (p := ⟨b, off + k, none⟩) hblt).trans (hc k _ (cI_at l k hlt))
      have hlt' : (k : Int) < (l.length : Int) := by omega
      obtain ⟨n, hn, hn2, hn3⟩ := fit_nat _ (unhide HFT k hlt)
      have HN : Hid (numsL (l.take (k + 1)) = m ++ be n 3) := by show _ = _; rw [numsL_snoc l k hlt, unhide HM, hn3]
      have hz := (unhide HB).size
      rw [hn] at hc1
      clear hc hn hn3 HR HCL HM
      go_wp2_with fail
      refine (snumber n 3 (by omega) (by omega) _).mono ?_
      rintro e w2 ⟨v2, rfl, ho2, hb2⟩
      obtain ⟨a2, cap2, rfl, hr2⟩ := own_rowV ho2
      rw [be_len] at *
      have hown := (unhide HO).kept (row := none) ⟨hb2.os, hb2.tape, hb2.output, hb2.size, fun k hk _ => hb2.block k hk⟩ (.inr (by simp [Value.ownBlock]))
      have hr8 := rowV_8 hr2
      have HB2 := hide ((unhide HB).trans (hb2.mono hz))
      have hz2' := (unhide HB2).size
      clear ho2 hr2 HB HO hb2
      go_wp2_with (at_builtin; refine append_row8 _ rfl (.tmp 12) (.tmp 18) 26 rfl w.heap.size 5 i0 Try.underlying26 hi hz0 hz1 hz2 g m.length c (B8 m) rfl hown _ _ (be n 3) (by rw [be_len]; rfl) hr8 (by rw [be_len]; omega) (by omega) ?_; intro g3 c3 w3 hown3 hgrow3; have HB3 := hide ((unhide HB2).grown hgrow3 (by omega) (fun j hj => by have := (hown.lt j hj).1; omega)); have HO3 := hide (own_app (l := m) (m := be n 3) (n := (be n 3).length) hown3 rfl); rw [be_len] at HO3 ⊢; clear hown hown3 hgrow3 HB2 hr8)
      go_roundw
      case rel => exact ⟨k + 1, m ++ be n 3, g3, c3, by omega, by go_num, (unhide HN).symm, by rw [← unhide HN, numsL_len]; have := List.length_take_le (k + 1) l; omega, by rw [List.length_append, be_len], by rw [List.length_append, be_len] at *; exact HO3, HB3⟩
      case measure => simp [intOf]; omega
    · rw [List.take_of_length_le (by omega)] at HM
      go_wp2_with fail
      go_ret
      rw [← unhide HM]
      exact ⟨_, rfl, unhide HO, unhide HB⟩
end Go.Proofs.Ytpbnjncbbllpdaa
