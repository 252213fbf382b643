/- Rows of entries, states: the laws' own helpers. -/
import Derived.Test.YthbkcijkokaoeaaEntM
import Derived.Test.YthbkcijkokaoeaaBf
import Derived.Lib.SmallJoins
namespace Go.Proofs.Ythbkcijkokaoeaa
open Go.ChangeShapes Go.WideShapes Go.ChangeAt Go.RowKit
theorem Try.infL67 : (Try.prog.info? 67).map (fun i => (i.zero, i.size, i.bytes)) = some (some (.agg #[.int .i64 0, .string ⟨#[]⟩]), 2, 24) := by kernel_rfl
set_option maxHeartbeats 400000 in
set_option maxRecDepth 100000 in
theorem eqEnt1 (x : Int) (y : ByteArray) (w : World) : Calls Try.prog 40 #[.agg #[.int .i64 x, .string y], .agg #[.int .i64 x, .string y]] w fun e w' => e = .returned (.bool true) ∧ Below w.heap.size w w' := by
  have n1 : (x != x) = false := by simp
  have n2 : (y.toList != y.toList) = false := by simp
  have hb0 := Go.Joins.below_alloc2 w (Obj.cells #[.int .i64 x, .string y] 67) (Obj.cells #[.int .i64 x, .string y] 67)
  have HB := hide hb0
  clear hb0
  go_enter Try.func40, Try.ntmps40
  go_wp2_with fail
  go_ret
  exact ⟨rfl, unhide HB⟩
set_option maxHeartbeats 400000 in
set_option maxRecDepth 100000 in
theorem sameEnt (a c : Option Addr) (cap cap2 : Nat) (l : List (Int × ByteArray)) (hl : l.length ≤ 1048576) (w : World) (hr : RowV w a (cE l)) (hr2 : RowV w c (cE l)) :
    Calls Try.prog 37 #[.slice a l.length cap, .slice c l.length cap2] w fun e w' => e = .returned (.bool true) ∧ Below w.heap.size w w' := by
  have HR := hide hr
  have HR2 := hide hr2
  have HCL := hide (cE_len l)
  clear hr hr2
  have hne : ((l.length : Int) != (l.length : Int)) = false := by simp
  go_enter Try.func37, Try.ntmps37
  go_wp2_with fail
  go_loopw [5] (fun i wr => ∃ k : Nat, k ≤ l.length ∧ i = .int .i64 k ∧ Below w.heap.size w wr) (fun i _ => l.length - (intOf i).toNat)
  case atStart => exact ⟨0, by omega, rfl, Below.refl _ _⟩
  case round =>
    obtain ⟨k, hk, rfl, hb⟩ := hrel
    by_cases hlt : k < l.length
    · obtain ⟨b, off, ha, hblt, hc⟩ := (unhide HR).at (by rw [unhide HCL]; omega)
      obtain ⟨b2, off2, ha2, hblt2, hc2⟩ := (unhide HR2).at (by rw [unhide HCL]; omega)
      subst ha ha2
      obtain ⟨x0, x1⟩ := row_ent hc k hlt
      obtain ⟨y0, y1⟩ := row_ent hc2 k hlt
      obtain ⟨x, ex⟩ : ∃ x, x = l[k].1 := ⟨_, rfl⟩
      obtain ⟨y, ey⟩ : ∃ y, y = l[k].2 := ⟨_, rfl⟩
      rw [← ex] at x0 y0
      rw [← ey] at x1 y1
      have hx0 : wr.cell? ⟨b, off + k * 2, none⟩ = some (.int .i64 x) := (hb.cell (p := ⟨b, off + k * 2, none⟩) hblt).trans x0
      have hx1 : wr.cell? ⟨b, off + k * 2 + 1, none⟩ = some (.string y) := (hb.cell (p := ⟨b, off + k * 2 + 1, none⟩) hblt).trans x1
      have hy0 : wr.cell? ⟨b2, off2 + k * 2, none⟩ = some (.int .i64 x) := (hb.cell (p := ⟨b2, off2 + k * 2, none⟩) hblt2).trans y0
      have hy1 : wr.cell? ⟨b2, off2 + k * 2 + 1, none⟩ = some (.string y) := (hb.cell (p := ⟨b2, off2 + k * 2 + 1, none⟩) hblt2).trans y1
      have hlt' : (k : Int) < (l.length : Int) := by omega
      have hlt0 : (0 : Int) ≤ (k : Int) := by omega
      have HB := hide hb
      clear hc hc2 HR HR2 HCL x0 x1 y0 y1 ex ey hb
      have hbw : b < wr.heap.size := Nat.lt_of_lt_of_le hblt (unhide HB).size
      have hbw2 : b2 < wr.heap.size := Nat.lt_of_lt_of_le hblt2 (unhide HB).size
      go_wp2_with fail
      go_region_held3 (fun w' => w'.cell? ⟨b, off + k * 2, none⟩ = some (.int .i64 x) ∧ w'.cell? ⟨b, off + k * 2 + 1, none⟩ = some (.string y) ∧ w'.cell? ⟨b2, off2 + k * 2, none⟩ = some (.int .i64 x) ∧ w'.cell? ⟨b2, off2 + k * 2 + 1, none⟩ = some (.string y)) (first | exact ⟨hx0, hx1, hy0, hy1⟩ | exact hs2) (first | (go_at_call 40; refine (eqEnt1 x y _).mono ?_; rintro e w2 ⟨rfl, hb2⟩; have hs2 : w2.cell? ⟨b, off + k * 2, none⟩ = some (.int .i64 x) ∧ w2.cell? ⟨b, off + k * 2 + 1, none⟩ = some (.string y) ∧ w2.cell? ⟨b2, off2 + k * 2, none⟩ = some (.int .i64 x) ∧ w2.cell? ⟨b2, off2 + k * 2 + 1, none⟩ = some (.string y) := ⟨((below_undrew hb2).cell (p := ⟨b, off + k * 2, none⟩) hbw).trans hx0, ((below_undrew hb2).cell (p := ⟨b, off + k * 2 + 1, none⟩) hbw).trans hx1, ((below_undrew hb2).cell (p := ⟨b2, off2 + k * 2, none⟩) hbw2).trans hy0, ((below_undrew hb2).cell (p := ⟨b2, off2 + k * 2 + 1, none⟩) hbw2).trans hy1⟩; have HB2 := hide ((unhide HB).trans ((below_undrew hb2).mono (unhide HB).size)); clear hb2))
      go_wp2_with fail
      go_roundw
      case rel => exact ⟨k + 1, by omega, by go_num, unhide HB2⟩
      case measure => simp [intOf]; omega
    · go_wp2_with fail
      go_ret
      exact ⟨rfl, hb⟩
end Go.Proofs.Ythbkcijkokaoeaa
