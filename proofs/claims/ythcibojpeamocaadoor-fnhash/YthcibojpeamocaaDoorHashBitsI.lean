/- HashBits: what the text of the program answers at every string. -/
import Derived.Test.YthcibojpeamocaaDoorBitsM
import Derived.Test.YthcibojpeamocaaDoorFault
namespace Go.Proofs.YthcibojpeamocaaDoor
open Go.ChangeShapes Go.WideShapes Go.ChangeAt Go.RowKit

def bitS (s : ByteArray) : ByteArray := htS s ⟨(bitsL s.data.toList).toArray⟩

theorem make256 : ∃ cur : Array Value, cur.size = 256 ∧ ∀ w : World, (Instr.makeSlice 22 (.int .i64 0) (.int .i64 256)).run Tryd.prog w = .ok (.slice (some ⟨w.heap.size, 0, none⟩) 0 256) (w.alloc (.cells cur 5)) :=
  ⟨Array.replicate 256 (.int .u8 0), by simp, fun _ => by kernel_rfl⟩

set_option maxHeartbeats 800000 in
set_option maxRecDepth 100000 in
theorem bits13 (s : ByteArray) (hs : s.size ≤ 1048576) (w : World) :
    Calls Tryd.prog 10 #[.string s] w fun e w' => e = .returned (.tuple #[.string (bitS s), .int .i64 (faultOf s.size)]) ∧ Below w.heap.size w w' := by
  obtain ⟨i0, hi, hz0, hz1, hz2⟩ := info_parts Tryd.info5
  have HS := hide hs
  by_cases b : s.size = 32
  · have HV : Hid (faultOf s.size = 0 ∧ bitS s = ⟨(bitsL s.data.toList).toArray⟩) := fault_ok _ b
    have f0 := (unhide HV).1
    obtain ⟨cur, hcs, hmk⟩ := make256
    have HC := hide hcs
    clear hcs b
    go_enter Tryd.func10, Tryd.ntmps10
    go_wp2_with (go_at_call 21; refine (fault13 s (unhide HS) _).mono ?_; rintro e w' ⟨rfl, hw⟩; subst w')
    go_loopw [5, 6] (fun v i wr => ∃ k : Nat, k ≤ s.size ∧ i = .int .i64 k ∧ wr.ownsRow w.heap.size 5 1 v (bitsL (s.data.toList.take k)).length (B8 (bitsL (s.data.toList.take k))) ∧ Below w.heap.size w wr) (fun _ i _ => s.size - (intOf i).toNat)
    case atStart => exact ⟨0, by omega, rfl, World.ownsRow_made _ cur 256 (Nat.le_refl _) (by decide) (by rw [unhide HC]), (Below.refl _ _).alloc (Nat.le_refl _) _⟩
    case round =>
      obtain ⟨k, hk, rfl, hown, hb⟩ := hrel
      by_cases hlt : k < s.size
      · go_wp2_with fail
        go_loopw [5, 7] (fun v i wr => ∃ b : Nat, b ≤ 8 ∧ i = .int .i64 ((b : Int) - 1) ∧ wr.ownsRow w.heap.size 5 1 v (bitsL (s.data.toList.take k) ++ (bitsOf s[k]).take (8 - b)).length (B8 (bitsL (s.data.toList.take k) ++ (bitsOf s[k]).take (8 - b))) ∧ Below w.heap.size w wr) (fun _ i _ => (intOf i + 1).toNat)
        case atStart => exact ⟨8, by omega, rfl, by simpa using hown, hb⟩
        case round =>
          obtain ⟨b, hb8, rfl, hown2, hbb⟩ := hrel
          by_cases hz : b = 0
          · subst hz
            have R := hown2
            rw [bits_full, ← bitsL_snoc s k hlt] at R
            clear hown2 hown
            go_wp2_with fail
            go_roundw
            case rel => exact ⟨k + 1, by omega, by go_num, R, hbb⟩
            case measure => simp [intOf]; omega
          · obtain ⟨c, rfl⟩ : ∃ c, b = c + 1 := ⟨b - 1, by omega⟩
            have hlt' : (k : Int) < (s.size : Int) := by omega
            have c0 : (0 : Int) ≤ (s[k].toNat : Int) := by omega
            have c1 : (s[k].toNat : Int) ≤ 255 := by have := s[k].toNat_lt; omega
            have hc : (c : Int) ≤ 7 := by omega
            have hv := bit_val s[k] c
            have hz := hbb.size
            obtain ⟨m, hm⟩ : ∃ m, m = bitsL (s.data.toList.take k) ++ (bitsOf s[k]).take (8 - (c + 1)) := ⟨_, rfl⟩
            rw [← hm] at hown2
            have HM := hide hm
            have HL : m.length ≤ 8 * k + 8 := by
              have := bitsL_len (s.data.toList.take k); have := take_le s k; have := List.length_take_le (8 - (c + 1)) (bitsOf s[k]); rw [hm, List.length_append]; omega
            clear hm
            go_wp2_with (at_builtin; refine wpList_append_lies _ rfl _ _ 22 rfl w.heap.size 5 i0 (.int .u8 0) 1 1 Tryd.underlying22 hi hz0 hz1 hz2 rfl (by decide) _ _ _ rfl (hown2.alloc _) ⟨wr.heap.size, 0, none⟩ 1 1 (B8 [bitAt s[k] c]) rfl rfl (by exact news_new wr (B8 [bitAt s[k] c]) 5) (B8_one _) (by decide) (by unfold maxLen; omega) (by omega) (by simp; omega) _ rfl ?_; intro g cap w1 hown1 hgrow1 hat1 hlt1; have R := bits_rel (by omega) (unhide HM) hown2 hbb hown1 hgrow1; clear hown1 hgrow1 hown2 hbb hat1 hlt1 hown hv)
            go_roundw
            case rel => exact ⟨c, by omega, by go_num, R.1, R.2⟩
            case measure => simp [intOf]
      · have hcv := conv_own (P := Tryd.prog) Tryd.underlying22 Tryd.underlying5 Tryd.underlying9 hown
        rw [take_all s k (by omega)] at hcv
        clear hown
        go_wp2_with fail
        go_ret2
        rw [(unhide HV).1, (unhide HV).2]
        exact ⟨rfl, hb⟩
  · have HV : Hid ((faultOf s.size != 0) = true ∧ bitS s = ⟨#[]⟩) := fault_not _ b
    have f0 := (unhide HV).1
    go_enter Tryd.func10, Tryd.ntmps10
    go_wp2_with (go_at_call 21; refine (fault13 s (unhide HS) _).mono ?_; rintro e w' ⟨rfl, rfl⟩)
    go_ret2
    rw [(unhide HV).2]
    exact ⟨rfl, Below.refl _ _⟩
end Go.Proofs.YthcibojpeamocaaDoor
