/- Texts put together: Fault HashTextI TokI. -/
import Derived.Test.YtmmnoepcklfonaaGreatDoorZG0
import Derived.Test.YtmmnoepcklfonaaGreatDoorZG10
import Derived.Laws.BitsAllLaws
import Derived.Test.YtmmnoepcklfonaaGreatDoorZG22
import Derived.Test.YtmmnoepcklfonaaGreatDoorZHmacI
import Derived.Test.YtmmnoepcklfonaaGreatDoorZG15
import Derived.Lib.SmallJoins
/- What is wrong with a string that should be a hash. -/
namespace Go.Proofs.YtmmnoepcklfonaaGreatDoor
open Go.ChangeShapes Go.WideShapes Go.ChangeAt Go.RowKit

def faultOf (n : Nat) : Int := if 65536 < n then 2 else if n = 32 then 0 else 1
def htS (s t : ByteArray) : ByteArray := if s.size = 32 then t else ⟨#[]⟩
theorem fault_long {s : ByteArray} (t : ByteArray) (h : 65536 < s.size) : faultOf s.size = 2 ∧ htS s t = ⟨#[]⟩ := by
  unfold faultOf htS; rw [if_pos h, if_neg (by omega)]; exact ⟨rfl, rfl⟩
theorem fault_bad {s : ByteArray} (t : ByteArray) (h : ¬ 65536 < s.size) (h2 : ¬ s.size = 32) : faultOf s.size = 1 ∧ htS s t = ⟨#[]⟩ := by
  unfold faultOf htS; rw [if_neg h, if_neg h2, if_neg h2]; exact ⟨rfl, rfl⟩
theorem fault_ok {s : ByteArray} (t : ByteArray) (h : s.size = 32) : faultOf s.size = 0 ∧ htS s t = t := by
  unfold faultOf htS; rw [if_neg (by omega), if_pos h, if_pos h]; exact ⟨rfl, rfl⟩
theorem fault_not {s : ByteArray} (t : ByteArray) (h : ¬ s.size = 32) : (faultOf s.size != 0) = true ∧ htS s t = ⟨#[]⟩ := by
  by_cases a : 65536 < s.size
  · have := fault_long t a; exact ⟨by rw [this.1]; rfl, this.2⟩
  · have := fault_bad t a h; exact ⟨by rw [this.1]; rfl, this.2⟩

theorem fault13 (s : ByteArray) (hs : s.size ≤ 1048576) (w : World) :
    Calls Tryz.prog 106 #[.string s] w fun e w' => e = .returned (.int .i64 (faultOf s.size)) ∧ w' = w := by
  by_cases a : 65536 < s.size
  · have HV := hide (fault_long s a).1
    go_enter Tryz.func106, Tryz.ntmps106
    go_wp2_with fail
    go_ret
    rw [unhide HV]
    exact ⟨rfl, rfl⟩
  by_cases b : s.size = 32
  · have HV := hide (fault_ok s b).1
    have b2 : ((s.size : Int) != 32) = false := by simp; omega
    clear b
    go_enter Tryz.func106, Tryz.ntmps106
    go_wp2_with fail
    go_ret
    rw [unhide HV]
    exact ⟨rfl, rfl⟩
  · have HV := hide (fault_bad s a b).1
    have b2 : ((s.size : Int) != 32) = true := by simp; omega
    go_enter Tryz.func106, Tryz.ntmps106
    go_wp2_with fail
    go_ret
    rw [unhide HV]
    exact ⟨rfl, rfl⟩
end Go.Proofs.YtmmnoepcklfonaaGreatDoor

/- HashText: what the text of the program answers at every string. -/
namespace Go.Proofs.YtmmnoepcklfonaaGreatDoor
open Go.ChangeShapes Go.WideShapes Go.ChangeAt Go.RowKit

def txtS (s : ByteArray) : ByteArray := htS s ⟨(hexL s.data.toList).toArray⟩

theorem and15 (c : UInt8) : bits .and .u8 (c.toNat : Int) 15 = (c.toNat : Int) % 16 := by
  have h := u8_and_nat c.toNat 15 c.toNat_lt (by decide)
  rw [show (15 : Nat) = 2 ^ 4 - 1 from rfl, Nat.and_two_pow_sub_one_eq_mod] at h
  simpa using h

theorem make64 : ∃ cur : Array Value, cur.size = 64 ∧ ∀ w : World, (Instr.makeSlice 101 (.int .i64 0) (.int .i64 64)).run Tryz.prog w = .ok (.slice (some ⟨w.heap.size, 0, none⟩) 0 64) (w.alloc (.cells cur 5)) :=
  ⟨Array.replicate 64 (.int .u8 0), by decide, fun _ => by kernel_rfl⟩

set_option maxHeartbeats 800000 in
set_option maxRecDepth 100000 in
theorem text8 (s : ByteArray) (hs : s.size ≤ 1048576) (w : World) :
    Calls Tryz.prog 98 #[.string s] w fun e w' => e = .returned (.tuple #[.string (txtS s), .int .i64 (faultOf s.size)]) ∧ Below w.heap.size w w' := by
  obtain ⟨i0, hi, hz0, hz1, hz2⟩ := info_parts Tryz.info5
  have HS := hide hs
  by_cases b : s.size = 32
  · have HV : Hid (faultOf s.size = 0 ∧ txtS s = ⟨(hexL s.data.toList).toArray⟩) := fault_ok _ b
    have f0 := (unhide HV).1
    obtain ⟨cur, hcs, hmk⟩ := make64
    have HC := hide hcs
    clear hcs b
    go_enter Tryz.func98, Tryz.ntmps98
    go_wp2_with (go_at_call 106; refine (fault13 s (unhide HS) _).mono ?_; rintro e w' ⟨rfl, hw⟩; subst w')
    go_loopw [5, 6] (fun v i wr => ∃ k : Nat, k ≤ s.size ∧ i = .int .i64 k ∧ wr.ownsRow w.heap.size 5 1 v (hexL (s.data.toList.take k)).length (B8 (hexL (s.data.toList.take k))) ∧ Below w.heap.size w wr) (fun _ i _ => s.size - (intOf i).toNat)
    case atStart => exact ⟨0, by omega, rfl, World.ownsRow_made _ cur 64 (Nat.le_refl _) (by decide) (by rw [unhide HC]), (Below.refl _ _).alloc (Nat.le_refl _) _⟩
    case round =>
      obtain ⟨k, hk, rfl, hown, hb⟩ := hrel
      by_cases hlt : k < s.size
      · have hlt' : (k : Int) < (s.size : Int) := by omega
        have c0 : (0 : Int) ≤ (s[k].toNat : Int) := by omega
        have c1 : (s[k].toNat : Int) ≤ 255 := by have := s[k].toNat_lt; omega
        have q3 : (s[k].toNat : Int) / 16 < 16 := by omega
        have q4 : (s[k].toNat : Int) % 16 < 16 := by omega
        have q5 : 0 ≤ (s[k].toNat : Int) / 16 := by omega
        have q6 : 0 ≤ (s[k].toNat : Int) % 16 := by omega
        have d1 : ∀ h : ((s[k].toNat : Int) / 16).toNat < hexs.size, hexs[((s[k].toNat : Int) / 16).toNat]'h = hexDig (s[k].toNat / 16) := fun h => hex_get _ h
        have d2 : ∀ h : ((s[k].toNat : Int) % 16).toNat < hexs.size, hexs[((s[k].toNat : Int) % 16).toNat]'h = hexDig (s[k].toNat % 16) := fun h => hex_get _ h
        unfold hexs at d1 d2
        have q7 := and15 s[k]
        have hz := hb.size
        have HL : Hid ((hexL (s.data.toList.take k)).length ≤ 2 * k) := by have := hexL_len (s.data.toList.take k); have := take_le s k; show _ ≤ _; omega
        go_wp2_with fail
        go_region_held3 (fun _ => True) (trivial) ((refine step_append_lies _ rfl _ _ 101 rfl w.heap.size 5 i0 (.int .u8 0) 1 1 Tryz.underlying101 hi hz0 hz1 hz2 rfl (by decide) _ _ _ rfl (by exact hown.alloc _) ⟨wr.heap.size, 0, none⟩ 2 2 (B8 (hexTwo s[k])) rfl rfl (by exact news_drew wr (B8 (hexTwo s[k])) 5) (B8_one _) (by decide) (by have := unhide HL; unfold maxLen; omega) (by have := unhide HL; omega) (by simp; omega) _ rfl ?_; intro g cap w1 hown1 hgrow1 hat1 hlt1))
        all_goals
          have R := hex_rel hlt hown hb hown1 hgrow1
          clear hown1 hgrow1 hown hb hat1 hlt1 d1 d2 q7
          go_wp2_with fail
          go_roundw
          case rel => exact ⟨k + 1, by omega, by go_num, R.1, R.2⟩
          case measure => simp [intOf]; omega
      · have hcv := conv_own (P := Tryz.prog) Tryz.underlying101 Tryz.underlying5 Tryz.underlying9 hown
        rw [take_all s k (by omega)] at hcv
        clear hown
        go_wp2_with fail
        go_ret2
        rw [(unhide HV).1, (unhide HV).2]
        exact ⟨rfl, hb⟩
  · have HV : Hid ((faultOf s.size != 0) = true ∧ txtS s = ⟨#[]⟩) := fault_not _ b
    have f0 := (unhide HV).1
    go_enter Tryz.func98, Tryz.ntmps98
    go_wp2_with (go_at_call 106; refine (fault13 s (unhide HS) _).mono ?_; rintro e w' ⟨rfl, rfl⟩)
    go_ret2
    rw [(unhide HV).2]
    exact ⟨rfl, Below.refl _ _⟩
end Go.Proofs.YtmmnoepcklfonaaGreatDoor

/- Tokens: what the program answers. -/
namespace Go.Proofs.YtmmnoepcklfonaaGreatDoor
open Go.ChangeShapes Go.WideShapes Go.ChangeAt Go.RowKit
set_option linter.unusedVariables false
theorem inumT (x : Int) (R : Bool) (HR : Hid (R = inB x 0 60)) (w : World) : Calls Tryz.prog 46 #[.int .i64 x] w fun e w' => e = .returned (.bool R) ∧ w' = w := by
  go_enter Tryz.func46, Tryz.ntmps46
  go_wp2_with (go_at_call 52; refine (iwi x 0 60 R HR _).mono ?_; rintro e w2 ⟨rfl, rfl⟩)
  go_ret
  exact ⟨rfl, rfl⟩
theorem num_m1 (n : Int) : inB n (-1) 60 = (decide (n = -1) || inB n 0 60) := by
  unfold inB; rw [Bool.eq_iff_iff]; simp; omega
set_option maxHeartbeats 1000000 in
set_option maxRecDepth 100000 in
theorem iclaimok (c : Int) (win : ByteArray) (n : Int) (HS : Hid (win.size ≤ 1048576)) (R : Bool) (HR : Hid (R = tokB c win n)) (w : World) :
    Calls Tryz.prog 85 #[.agg #[.int .i64 c, .string win, .int .i64 n]] w fun e w' => e = .returned (.bool R) ∧ Below w.heap.size w w' := by
  have HB := hide (Go.Joins.below_alloc1 w (.cells #[.int .i64 c, .string win, .int .i64 n] 105))
  obtain ⟨A, hA⟩ : ∃ A, A = inB c 0 200 := ⟨_, rfl⟩
  obtain ⟨B, hB⟩ : ∃ B, B = wnB win := ⟨_, rfl⟩
  obtain ⟨C, hC⟩ : ∃ C, C = inB n 0 60 := ⟨_, rfl⟩
  have HRR : Hid (R = (A && (B && (decide (n = -1) || C)))) := by show _ = _; rw [unhide HR, hA, hB, hC, ← num_m1]; rfl
  have HA := hide hA
  have HBB := hide hB
  have HC := hide hC
  clear hA hB hC HR
  by_cases hn : n = -1
  · have hn1 : (n == -1) = true := by simp [hn]
    have hn2 : Hid (decide (n = -1) = true) := by show _ = _; simp [hn]
    clear hn
    cases A <;> cases B
    all_goals
      go_enter Tryz.func85, Tryz.ntmps85
      go_wp2_with (first
        | (go_at_call 95; refine (icl c _ HA _).mono ?_; rintro e w2 ⟨rfl, rfl⟩)
        | (go_at_call 96; refine (iwn win HS _ HBB _).mono ?_; rintro e w2 ⟨rfl, rfl⟩))
      go_ret
      exact ⟨ret_bool (by rw [unhide HRR, unhide hn2]; rfl), unhide HB⟩
  · have hn1 : (n == -1) = false := by simp [hn]
    have hn2 : Hid (decide (n = -1) = false) := by show _ = _; simp [hn]
    clear hn
    cases A <;> cases B
    all_goals
      go_enter Tryz.func85, Tryz.ntmps85
      go_wp2_with (first
        | (go_at_call 95; refine (icl c _ HA _).mono ?_; rintro e w2 ⟨rfl, rfl⟩)
        | (go_at_call 96; refine (iwn win HS _ HBB _).mono ?_; rintro e w2 ⟨rfl, rfl⟩)
        | (go_at_call 46; refine (inumT n _ HC _).mono ?_; rintro e w2 ⟨rfl, rfl⟩))
      go_ret
      exact ⟨ret_bool (by rw [unhide HRR, unhide hn2]; first | rfl | (cases C <;> rfl)), unhide HB⟩
end Go.Proofs.YtmmnoepcklfonaaGreatDoor
