/- Rows of integers: the laws' own helpers. -/
import Derived.Test.YtpadpgjkpajfaaaZRowV
namespace Go.Proofs.Ytpadpgjkpajfaaa
open Go.ChangeShapes Go.WideShapes Go.ChangeAt Go.RowKit
theorem Try.infL3 : (Try.prog.info? 3).map (fun i => (i.zero, i.size, i.bytes)) = some (some (.int .i64 0), 1, 8) := by kernel_rfl
def cI (l : List Int) : List Value := l.map fun c => .int .i64 (c)
theorem cI_len (l : List Int) : (cI l).length = l.length := by simp [cI]
theorem cI_at (l : List Int) (k : Nat) (h : k < l.length) : (cI l)[k]? = some (.int .i64 (l[k])) := by simp [cI, List.getElem?_eq_getElem h]
theorem cI_one (l : List Int) : ∀ u ∈ cI l, u.oneCell' = true := by
  intro u hu; simp [cI] at hu; obtain ⟨c, _, rfl⟩ := hu; rfl

set_option maxHeartbeats 400000 in
set_option maxRecDepth 100000 in
theorem copyInt (a : Option Addr) (cap : Nat) (l : List Int) (hl : l.length ≤ 1048576) (w : World) (hr : RowV w a (cI l)) :
    Calls Try.prog 21 #[.slice a l.length cap] w fun e w' => e = .returned (.slice (some ⟨w.heap.size, 0, none⟩) l.length l.length) ∧
      w'.ownsRow w.heap.size 3 1 (.slice (some ⟨w.heap.size, 0, none⟩) l.length l.length) l.length (cI l) ∧ Below w.heap.size w w' := by
  obtain ⟨i0, hi, hz0, hz1, hz2⟩ := info_parts Try.infL3
  have hcl := cI_len l
  go_enter Try.func21, Try.ntmps21
  go_wp2_with (at_make; refine wpList_make_full _ rfl _ _ 23 rfl w.heap.size 3 i0 (.int .i64 0) 1 Try.underlying23 hi hz0 hz1 .i64 .i64 _ _ l.length rfl rfl rfl rfl (by rw [hz2]; omega) (by unfold maxLen; omega) (Nat.le_refl _) ?_; intro w1 hown hgrow)
  rw [show l.length * 1 = (cI l).length * 1 from by rw [hcl], ← fillV_zero _ _ rfl] at hown
  have hb1 := (Below.refl w.heap.size w).grown hgrow (Nat.le_refl _) (fun k hk => by cases hk)
  clear hgrow
  have HR := hide hr
  have HCL := hide hcl
  clear hr hcl
  go_loopw [4] (fun i wr => ∃ k : Nat, k ≤ l.length ∧ i = .int .i64 k ∧ wr.ownsRow w.heap.size 3 1 (.slice (some ⟨w.heap.size, 0, none⟩) l.length l.length) l.length (fillV (.int .i64 0) (cI l) k) ∧ Below w.heap.size w wr) (fun i _ => l.length - (intOf i).toNat)
  case atStart => exact ⟨0, by omega, rfl, hown, hb1⟩
  case round =>
    clear hown hb1
    obtain ⟨k, hk, rfl, hown, hb⟩ := hrel
    by_cases hlt : k < l.length
    · obtain ⟨b, off, ha, hblt, hc⟩ := (unhide HR).at (by rw [unhide HCL]; omega)
      subst ha
      have hc1 : wr.cell? ⟨b, off + k, none⟩ = some (.int .i64 (l[k])) := (hb.cell (p := ⟨b, off + k, none⟩) hblt).trans (hc k _ (cI_at l k hlt))
      have hc2 : wr.cell? ⟨w.heap.size, k, none⟩ = some (.int .i64 0) := by rw [hown.cellAt k (by omega), fillV_at _ _ k (by rw [unhide HCL]; exact hlt)]
      have hf2 := hown.frozenAt k
      have hlt' : (k : Int) < (l.length : Int) := by omega
      have R := hown.stored k (.int .i64 (l[k]))
      rw [fillV_set _ _ k _ (cI_at l k hlt)] at R
      have R2 : Below w.heap.size w (wr.setCell ⟨w.heap.size, k, none⟩ (.int .i64 (l[k]))) := hb.setCell (p := ⟨w.heap.size, k, none⟩) (Nat.le_refl _) _
      have R1 := R.1
      clear hc R hown hb HR hblt HCL
      go_wp2_with fail
      go_roundw
      case rel => exact ⟨k + 1, by omega, by go_num, R1, R2⟩
      case measure => simp [intOf]; omega
    · rw [fillV_all _ _ k (by rw [unhide HCL]; omega)] at hown
      go_wp2_with fail
      go_ret
      exact ⟨rfl, hown, hb⟩

set_option maxHeartbeats 400000 in
set_option maxRecDepth 100000 in
theorem sameInt (a c : Option Addr) (cap cap2 : Nat) (l : List Int) (hl : l.length ≤ 1048576) (w : World) (hr : RowV w a (cI l)) (hr2 : RowV w c (cI l)) :
    Calls Try.prog 29 #[.slice a l.length cap, .slice c l.length cap2] w fun e w' => e = .returned (.bool true) ∧ Below w.heap.size w w' := by
  have HR := hide hr
  have HR2 := hide hr2
  have HCL := hide (cI_len l)
  clear hr hr2
  have hne : ((l.length : Int) != (l.length : Int)) = false := by simp
  go_enter Try.func29, Try.ntmps29
  go_wp2_with fail
  go_loopw [5] (fun i wr => ∃ k : Nat, k ≤ l.length ∧ i = .int .i64 k ∧ Below w.heap.size w wr) (fun i _ => l.length - (intOf i).toNat)
  case atStart => exact ⟨0, by omega, rfl, Below.refl _ _⟩
  case round =>
    obtain ⟨k, hk, rfl, hb⟩ := hrel
    by_cases hlt : k < l.length
    · obtain ⟨b, off, ha, hblt, hc⟩ := (unhide HR).at (by rw [unhide HCL]; omega)
      obtain ⟨b2, off2, ha2, hblt2, hc2⟩ := (unhide HR2).at (by rw [unhide HCL]; omega)
      subst ha ha2
      have hc1 : wr.cell? ⟨b, off + k, none⟩ = some (.int .i64 (l[k])) := (hb.cell (p := ⟨b, off + k, none⟩) hblt).trans (hc k _ (cI_at l k hlt))
      have hc3 : wr.cell? ⟨b2, off2 + k, none⟩ = some (.int .i64 (l[k])) := (hb.cell (p := ⟨b2, off2 + k, none⟩) hblt2).trans (hc2 k _ (cI_at l k hlt))
      have hlt' : (k : Int) < (l.length : Int) := by omega
      have hlt0 : (0 : Int) ≤ (k : Int) := by omega
      have hne2 : ((l[k] : Int) != (l[k] : Int)) = false := by simp
      clear hc hc2 HR HR2 HCL
      go_wp2_with fail
      go_region_held3 (fun w' => w'.cell? ⟨b, off + k, none⟩ = some (.int .i64 (l[k])) ∧ w'.cell? ⟨b2, off2 + k, none⟩ = some (.int .i64 (l[k]))) (go_keep) (fail)
      all_goals
        go_wp2_with fail
        go_roundw
        case rel => exact ⟨k + 1, by omega, by go_num, hb.drew⟩
        case measure => simp [intOf]; omega
    · go_wp2_with fail
      go_ret
      exact ⟨rfl, hb⟩

def onesInt (n : Nat) : List Value := (List.range n).map fun j => .int .i64 (((1 + j : Nat) : Int))
end Go.Proofs.Ytpadpgjkpajfaaa
