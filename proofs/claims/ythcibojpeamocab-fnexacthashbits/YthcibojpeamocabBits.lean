/- Hashes as bits: what both texts make of every string. -/
import Derived.Test.YthcibojpeamocabBase
import Derived.Laws.BitsAllLaws
namespace Go.Proofs.Ythcibojpeamocab
open Go.ChangeShapes Go.WideShapes Go.ChangeAt Go.RowKit
theorem Try.info5 : (Try.prog.info? 5).map (fun i => (i.zero, i.size, i.bytes)) = some (some (.int .u8 0), 1, 1) := by kernel_rfl

def bitAt (c : UInt8) (j : Nat) : UInt8 := UInt8.ofNat (48 + c.toNat / 2 ^ j % 2)
def bitsOf (c : UInt8) : List UInt8 := [bitAt c 7, bitAt c 6, bitAt c 5, bitAt c 4, bitAt c 3, bitAt c 2, bitAt c 1, bitAt c 0]
def bitsL (l : List UInt8) : List UInt8 := l.flatMap bitsOf
theorem bitsL_len (l : List UInt8) : (bitsL l).length = 8 * l.length := by
  induction l with
  | nil => rfl
  | cons c l ih => simp [bitsL, bitsOf] at *; omega

theorem bit_val (c : UInt8) (j : Nat) : (48 + bits BinOp.and IntKind.u8 ((c.toNat : Int) / 2 ^ j) 1) % 256 = ((bitAt c j).toNat : Int) := by
  have hlt : c.toNat / 2 ^ j < 256 := Nat.lt_of_le_of_lt (Nat.div_le_self _ _) c.toNat_lt
  have e : ((c.toNat : Int) / 2 ^ j) = ((c.toNat / 2 ^ j : Nat) : Int) := by simp
  have h := u8_and_nat (c.toNat / 2 ^ j) 1 hlt (by decide)
  rw [Nat.and_one_is_mod] at h
  rw [e, show (1 : Int) = ((1 : Nat) : Int) from rfl, h]
  unfold bitAt
  rw [UInt8.toNat_ofNat']
  omega
theorem bits_take (c : UInt8) : ∀ b, b < 8 → (bitsOf c).take (8 - b) = (bitsOf c).take (8 - (b + 1)) ++ [bitAt c b] := by
  intro b hb
  match b, hb with
  | 0, _ => rfl
  | 1, _ => rfl
  | 2, _ => rfl
  | 3, _ => rfl
  | 4, _ => rfl
  | 5, _ => rfl
  | 6, _ => rfl
  | 7, _ => rfl
theorem bitsL_snoc (s : ByteArray) (k : Nat) (h : k < s.size) : bitsL (s.data.toList.take (k + 1)) = bitsL (s.data.toList.take k) ++ bitsOf s[k] := by
  rw [take_snoc s k h]; simp [bitsL]
theorem bits_full (c : UInt8) : (bitsOf c).take (8 - 0) = bitsOf c := rfl
theorem bits_rel {w wr w1 : World} {o : Obj} {v v' : Value} {e : TypeId} {m l : List UInt8} {c : UInt8} {b : Nat} (hb : b < 8) (hm : m = l ++ (bitsOf c).take (8 - (b + 1)))
    (hown : wr.ownsRow w.heap.size e 1 v m.length (B8 m)) (hbl : Below w.heap.size w wr)
    (hown1 : w1.ownsRow w.heap.size e 1 v' (m.length + 1) (B8 m ++ B8 [bitAt c b]))
    (hgrow : (wr.alloc o).grownBy w1 v.ownBlock) :
    w1.ownsRow w.heap.size e 1 v' (l ++ (bitsOf c).take (8 - b)).length (B8 (l ++ (bitsOf c).take (8 - b))) ∧ Below w.heap.size w w1 := by
  have h := own_app hown1 rfl
  rw [hm, List.append_assoc, ← bits_take c b hb] at h
  exact ⟨h, below_app hbl hbl.size hown (Nat.le_refl _) hgrow⟩

set_option maxHeartbeats 400000 in
set_option maxRecDepth 100000 in
theorem bits18 (s : ByteArray) (hs : s.size ≤ 1048576) (w : World) :
    Calls Try.prog 18 #[.string s] w fun e w' => e = .returned (.string ⟨(bitsL s.data.toList).toArray⟩) ∧ Below w.heap.size w w' := by
  obtain ⟨i0, hi, hz0, hz1, hz2⟩ := info_parts Try.info5
  go_enter Try.func18, Try.ntmps18
  go_wp2_with fail
  go_loopw [3, 4] (fun v i wr => ∃ k : Nat, k ≤ s.size ∧ i = .int .i64 k ∧ wr.ownsRow w.heap.size 5 1 v (bitsL (s.data.toList.take k)).length (B8 (bitsL (s.data.toList.take k))) ∧ Below w.heap.size w wr) (fun _ i _ => s.size - (intOf i).toNat)
  case atStart => exact ⟨0, by omega, rfl, World.ownsRow_lit _ #[] 0 (Nat.le_refl _) (by decide) rfl, (Below.refl _ _).alloc (Nat.le_refl _) _⟩
  case round =>
    obtain ⟨k, hk, rfl, hown, hb⟩ := hrel
    by_cases hlt : k < s.size
    · go_wp2_with fail
      go_loopw [3, 5] (fun v i wr => ∃ b : Nat, b ≤ 8 ∧ i = .int .i64 ((b : Int) - 1) ∧ wr.ownsRow w.heap.size 5 1 v (bitsL (s.data.toList.take k) ++ (bitsOf s[k]).take (8 - b)).length (B8 (bitsL (s.data.toList.take k) ++ (bitsOf s[k]).take (8 - b))) ∧ Below w.heap.size w wr) (fun _ i _ => (intOf i + 1).toNat)
      case atStart => exact ⟨8, by omega, rfl, by simpa using hown, hb⟩
      case round =>
        obtain ⟨b, hb8, rfl, hown2, hbb⟩ := hrel
        by_cases hz : b = 0
        · subst hz
          have R := hown2
          rw [bits_full, ← bitsL_snoc s k hlt] at R
          clear hown2 hown
          go_wp2_with fail
          go_roundw
          case rel => exact ⟨k + 1, by omega, by go_num, R, hbb⟩
          case measure => simp [intOf]; omega
        · obtain ⟨c, rfl⟩ : ∃ c, b = c + 1 := ⟨b - 1, by omega⟩
          have hlt' : (k : Int) < (s.size : Int) := by omega
          have c0 : (0 : Int) ≤ (s[k].toNat : Int) := by omega
          have c1 : (s[k].toNat : Int) ≤ 255 := by have := s[k].toNat_lt; omega
          have hc : (c : Int) ≤ 7 := by omega
          have hv := bit_val s[k] c
          have hz := hbb.size
          obtain ⟨m, hm⟩ : ∃ m, m = bitsL (s.data.toList.take k) ++ (bitsOf s[k]).take (8 - (c + 1)) := ⟨_, rfl⟩
          rw [← hm] at hown2
          have HM := hide hm
          have HL : m.length ≤ 8 * k + 8 := by
            have := bitsL_len (s.data.toList.take k); have := take_le s k; have := List.length_take_le (8 - (c + 1)) (bitsOf s[k]); rw [hm, List.length_append]; omega
          clear hm
          go_wp2_with (at_builtin; refine wpList_append_lies _ rfl _ _ 25 rfl w.heap.size 5 i0 (.int .u8 0) 1 1 Try.underlying25 hi hz0 hz1 hz2 rfl (by decide) _ _ _ rfl (hown2.alloc _) ⟨wr.heap.size, 0, none⟩ 1 1 (B8 [bitAt s[k] c]) rfl rfl (by exact news_new wr (B8 [bitAt s[k] c]) 5) (B8_one _) (by decide) (by unfold maxLen; omega) (by omega) (by simp; omega) _ rfl ?_; intro g cap w1 hown1 hgrow1 hat1 hlt1; have R := bits_rel (by omega) (unhide HM) hown2 hbb hown1 hgrow1; clear hown1 hgrow1 hown2 hbb hat1 hlt1 hown hv)
          go_roundw
          case rel => exact ⟨c, by omega, by go_num, R.1, R.2⟩
          case measure => simp [intOf]
    · have hcv := conv_own (P := Try.prog) Try.underlying25 Try.underlying5 Try.underlying9 hown
      rw [take_all s k (by omega)] at hcv
      clear hown
      go_wp2_with fail
      go_ret
      exact ⟨rfl, hb⟩
end Go.Proofs.Ythcibojpeamocab
