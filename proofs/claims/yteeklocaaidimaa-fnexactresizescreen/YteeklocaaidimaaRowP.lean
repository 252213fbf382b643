/- A right screen's parts, and its rows as the program cuts them. -/
import Derived.Test.YteeklocaaidimaaOkJ
namespace Go.Proofs.Yteeklocaaidimaa
open Go.ChangeShapes Go.WideShapes Go.ChangeAt Go.RowKit
set_option linter.unusedVariables false
set_option maxHeartbeats 1000000 in
set_option maxRecDepth 100000 in
theorem irows (B W y f e b off n cap : Nat) (hf : f = y * W) (he : e = f + W) (hW : 0 < W ∧ W ≤ 24) (hn : e ≤ n) (hc : n ≤ cap) (hn2 : n ≤ 1048576) (w : World) (c0 : w.cell? ⟨B, 0, none⟩ = some (.int .i64 (W : Int))) (c10 : w.cell? ⟨B, 10, none⟩ = some (.slice (some ⟨b, off, none⟩) n cap)) :
    Calls Try.prog 39 #[.pointer (some ⟨B, 0, none⟩), .int .i64 (y : Int), .int .i64 (y : Int)] w fun e w' => e = .returned (.slice (some ⟨b, off + f * 2, none⟩) W W) ∧ Below w.heap.size w w' := by
  have h1 : ((y : Int) + 1) * (W : Int) = (e : Int) := by rw [he, hf]; push_cast; rw [Int.add_mul]; omega
  have h2 : (y : Int) * (W : Int) = (f : Int) := by rw [hf]; push_cast; rfl
  have hy : y ≤ 1048576 := by
    have : y * 1 ≤ y * W := Nat.mul_le_mul_left y hW.1
    omega
  have h3 : (f : Int) ≤ (e : Int) := by omega
  have h4 : (e : Int) ≤ (cap : Int) := by omega
  have h5 : e - f = W := by omega
  have h6 : ¬ e = f := by omega
  have h7 : IntKind.i64.wrap (f : Int) = (f : Int) := wrapi _ (by omega) (by omega)
  have h8 : f ≤ e := by omega
  have h9 : e ≤ cap := by omega
  have h10 : (e : Int) ≤ 1048576 := by omega
  have h11 : (f : Int) ≤ 1048576 := by omega
  have h12 : (0 : Int) ≤ (f : Int) := by omega
  have h13 : (0 : Int) ≤ (e : Int) := by omega
  clear hf he hn hc
  go_enter Try.func39, Try.ntmps39
  go_wp2_with fail
  go_quiet (fail)
  go_wp2_with fail
  go_ret
  exact ⟨rfl, below_drewN (Below.refl _ _) _⟩
set_option maxHeartbeats 1000000 in
set_option maxRecDepth 100000 in
theorem irow (B W y f e b off n cap : Nat) (hf : f = y * W) (he : e = f + W) (hW : 0 < W ∧ W ≤ 24) (hn : e ≤ n) (hc : n ≤ cap) (hn2 : n ≤ 1048576) (w : World) (c0 : w.cell? ⟨B, 0, none⟩ = some (.int .i64 (W : Int))) (c10 : w.cell? ⟨B, 10, none⟩ = some (.slice (some ⟨b, off, none⟩) n cap)) :
    Calls Try.prog 21 #[.pointer (some ⟨B, 0, none⟩), .int .i64 (y : Int)] w fun e w' => e = .returned (.slice (some ⟨b, off + f * 2, none⟩) W W) ∧ Below w.heap.size w w' := by
  have T := hide (irows B W y f e b off n cap hf he hW hn hc hn2 w c0 c10)
  clear hf he hn hc hn2 c0 c10
  go_enter Try.func21, Try.ntmps21
  go_wp2_with (go_at_call 39; refine (unhide T).mono ?_; rintro e w2 ⟨rfl, hb⟩; have HB := hide hb; clear hb)
  go_ret
  exact ⟨rfl, unhide HB⟩
/-- What a right screen's numbers and cells are. -/
theorem ok_parts {i0 i1 i2 i3 i4 i5 i6 i7 i8 : Int} {t : List UInt8} {l : List (Int × Int)} {m : List ByteArray} (h : okB i0 i1 i2 i3 i4 i5 i6 i7 i8 t l m = true) : ∃ W H : Nat, i0 = (W : Int) ∧ i1 = (H : Int) ∧ 2 ≤ W ∧ W ≤ 24 ∧ 2 ≤ H ∧ H ≤ 10 ∧ l.length = W * H ∧ ∀ q (h : q < l.length), cellB l[q] = true := by
  unfold okB at h
  simp only [Bool.and_eq_true] at h
  obtain ⟨h1, _, _, _, _, _, h7, _⟩ := h
  have h2 : 2 ≤ i0 ∧ i0 ≤ 24 ∧ 2 ≤ i1 ∧ i1 ≤ 10 := of_decide_eq_true h1
  unfold cellsB at h7
  rw [Bool.and_eq_true] at h7
  have h3 : (l.length : Int) = i0 * i1 := of_decide_eq_true h7.1
  obtain ⟨W, rfl⟩ : ∃ W : Nat, i0 = (W : Int) := ⟨i0.toNat, by omega⟩
  obtain ⟨H, rfl⟩ : ∃ H : Nat, i1 = (H : Int) := ⟨i1.toNat, by omega⟩
  exact ⟨W, H, rfl, rfl, by omega, by omega, by omega, by omega, by exact_mod_cast h3, fun q hq => List.all_eq_true.1 h7.2 _ (List.getElem_mem hq)⟩
end Go.Proofs.Yteeklocaaidimaa
