/- Slices of bytes: a copy owns its memory and holds the same bytes; two rows are held against each other. -/
import Derived.Test.YtokfmcajikmhmaaBase
namespace Go.Proofs.Ytokfmcajikmhmaa
open Go.ChangeShapes Go.WideShapes Go.ChangeAt Go.RowKit
theorem Try.inf5 : (Try.prog.info? 5).map (fun i => (i.zero, i.size, i.bytes)) = some (some (.int .u8 0), 1, 1) := by kernel_rfl

def fill8 (l : List UInt8) (k : Nat) : List Value := B8 (l.take k) ++ List.replicate (l.length - k) (.int .u8 0)
theorem fill8_zero (l : List UInt8) : fill8 l 0 = (madeCells (Value.int .u8 0).cells (l.length * 1)).toList := by
  show _ = (madeCells #[Value.int .u8 0] (l.length * 1)).toList
  rw [toList_madeCells_one]; simp [fill8, B8]
theorem fill8_all (l : List UInt8) (k : Nat) (h : l.length ≤ k) : fill8 l k = B8 l := by
  unfold fill8; rw [List.take_of_length_le h, show l.length - k = 0 from by omega]; simp
theorem fill8_set (l : List UInt8) (k : Nat) (h : k < l.length) : (fill8 l k).set k (.int .u8 (l[k].toNat : Int)) = fill8 l (k + 1) := by
  have e1 : (B8 (l.take k)).length = k := by rw [B8_len, List.length_take]; omega
  unfold fill8
  rw [List.set_append_right _ _ (by omega), e1, Nat.sub_self, List.take_succ_eq_append_getElem h, B8_app]
  obtain ⟨m, hm⟩ : ∃ m, l.length - k = m + 1 := ⟨l.length - k - 1, by omega⟩
  rw [hm, show l.length - (k + 1) = m from by omega]
  simp [List.replicate_succ, B8]
theorem fill8_at (l : List UInt8) (k : Nat) (h : k < l.length) : (fill8 l k)[k]? = some (.int .u8 0) := by
  have e1 : (B8 (l.take k)).length = k := by rw [B8_len, List.length_take]; omega
  unfold fill8
  rw [List.getElem?_append_right (by omega), e1, Nat.sub_self]
  obtain ⟨m, hm⟩ : ∃ m, l.length - k = m + 1 := ⟨l.length - k - 1, by omega⟩
  rw [hm]; rfl

set_option maxHeartbeats 400000 in
set_option maxRecDepth 100000 in
theorem same8 (a c : Option Addr) (cap cap2 : Nat) (l : List UInt8) (hl : l.length ≤ 1048576) (w : World) (hr : Row8 w a l) (hr2 : Row8 w c l) :
    Calls Try.prog 8 #[.slice a l.length cap, .slice c l.length cap2] w fun e w' => e = .returned (.bool true) ∧ Below w.heap.size w w' := by
  have HR := hide hr
  have HR2 := hide hr2
  clear hr hr2
  have hne : ((l.length : Int) != (l.length : Int)) = false := by simp
  go_enter Try.func8, Try.ntmps8
  go_wp2_with fail
  go_loopw [5] (fun i wr => ∃ k : Nat, k ≤ l.length ∧ i = .int .i64 k ∧ Below w.heap.size w wr) (fun i _ => l.length - (intOf i).toNat)
  case atStart => exact ⟨0, by omega, rfl, Below.refl _ _⟩
  case round =>
    obtain ⟨k, hk, rfl, hb⟩ := hrel
    by_cases hlt : k < l.length
    · obtain ⟨b, off, ha, hblt, hc⟩ := (unhide HR).at (by omega)
      obtain ⟨b2, off2, ha2, hblt2, hc2⟩ := (unhide HR2).at (by omega)
      subst ha ha2
      have hc1 : wr.cell? ⟨b, off + k, none⟩ = some (.int .u8 (l[k].toNat : Int)) := (hb.cell (p := ⟨b, off + k, none⟩) hblt).trans (hc k hlt)
      have hc3 : wr.cell? ⟨b2, off2 + k, none⟩ = some (.int .u8 (l[k].toNat : Int)) := (hb.cell (p := ⟨b2, off2 + k, none⟩) hblt2).trans (hc2 k hlt)
      have hlt' : (k : Int) < (l.length : Int) := by omega
      have hlt0 : (0 : Int) ≤ (k : Int) := by omega
      have hne2 : ((l[k].toNat : Int) != (l[k].toNat : Int)) = false := by simp
      clear hc hc2 HR HR2
      go_wp2_with fail
      go_region_held3 (fun w' => w'.cell? ⟨b, off + k, none⟩ = some (.int .u8 (l[k].toNat : Int)) ∧ w'.cell? ⟨b2, off2 + k, none⟩ = some (.int .u8 (l[k].toNat : Int))) (go_keep) (fail)
      all_goals
        go_wp2_with fail
        go_roundw
        case rel => exact ⟨k + 1, by omega, by go_num, hb.drew⟩
        case measure => simp [intOf]; omega
    · go_wp2_with fail
      go_ret
      exact ⟨rfl, hb⟩
end Go.Proofs.Ytokfmcajikmhmaa
