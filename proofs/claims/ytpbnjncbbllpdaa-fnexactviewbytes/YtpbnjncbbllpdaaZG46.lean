/- Texts put together: ByteS ByteV VbAll. -/
import Derived.Test.YtpbnjncbbllpdaaZBase
import Derived.Test.YtpbnjncbbllpdaaZRowV
import Derived.Test.YtpbnjncbbllpdaaZVbT
import Derived.Test.YtpbnjncbbllpdaaZVwL
import Derived.Test.YtpbnjncbbllpdaaZVwK
import Derived.Test.YtpbnjncbbllpdaaZMarkB
/- Slices of bytes: a copy owns its memory and holds the same bytes; two rows are held against each other. -/
namespace Go.Proofs.Ytpbnjncbbllpdaa
open Go.ChangeShapes Go.WideShapes Go.ChangeAt Go.RowKit
def fill8 (l : List UInt8) (k : Nat) : List Value := B8 (l.take k) ++ List.replicate (l.length - k) (.int .u8 0)
set_option maxHeartbeats 400000 in
set_option maxRecDepth 100000 in
theorem same8 (a c : Option Addr) (cap cap2 : Nat) (l : List UInt8) (hl : l.length ≤ 1048576) (w : World) (hr : Row8 w a l) (hr2 : Row8 w c l) :
    Calls Try.prog 8 #[.slice a l.length cap, .slice c l.length cap2] w fun e w' => e = .returned (.bool true) ∧ Below w.heap.size w w' := by
  have HR := hide hr
  have HR2 := hide hr2
  clear hr hr2
  have hne : ((l.length : Int) != (l.length : Int)) = false := by simp
  go_enter Try.func8, Try.ntmps8
  go_wp2_with fail
  go_loopw [5] (fun i wr => ∃ k : Nat, k ≤ l.length ∧ i = .int .i64 k ∧ Below w.heap.size w wr) (fun i _ => l.length - (intOf i).toNat)
  case atStart => exact ⟨0, by omega, rfl, Below.refl _ _⟩
  case round =>
    obtain ⟨k, hk, rfl, hb⟩ := hrel
    by_cases hlt : k < l.length
    · obtain ⟨b, off, ha, hblt, hc⟩ := (unhide HR).at (by omega)
      obtain ⟨b2, off2, ha2, hblt2, hc2⟩ := (unhide HR2).at (by omega)
      subst ha ha2
      have hc1 : wr.cell? ⟨b, off + k, none⟩ = some (.int .u8 (l[k].toNat : Int)) := (hb.cell (p := ⟨b, off + k, none⟩) hblt).trans (hc k hlt)
      have hc3 : wr.cell? ⟨b2, off2 + k, none⟩ = some (.int .u8 (l[k].toNat : Int)) := (hb.cell (p := ⟨b2, off2 + k, none⟩) hblt2).trans (hc2 k hlt)
      have hlt' : (k : Int) < (l.length : Int) := by omega
      have hlt0 : (0 : Int) ≤ (k : Int) := by omega
      have hne2 : ((l[k].toNat : Int) != (l[k].toNat : Int)) = false := by simp
      clear hc hc2 HR HR2
      go_wp2_with fail
      go_region_held3 (fun w' => w'.cell? ⟨b, off + k, none⟩ = some (.int .u8 (l[k].toNat : Int)) ∧ w'.cell? ⟨b2, off2 + k, none⟩ = some (.int .u8 (l[k].toNat : Int))) (go_keep) (fail)
      all_goals
        go_wp2_with fail
        go_roundw
        case rel => exact ⟨k + 1, by omega, by go_num, hb.drew⟩
        case measure => simp [intOf]; omega
    · go_wp2_with fail
      go_ret
      exact ⟨rfl, hb⟩
end Go.Proofs.Ytpbnjncbbllpdaa

/- Rows of bytes: copies and likeness, in the words of rows of values. -/
namespace Go.Proofs.Ytpbnjncbbllpdaa
open Go.ChangeShapes Go.WideShapes Go.ChangeAt Go.RowKit
--@end
theorem sameByte (a c : Option Addr) (cap cap2 : Nat) (l : List UInt8) (hl : l.length ≤ 1048576) (w : World) (hr : RowV w a (B8 l)) (hr2 : RowV w c (B8 l)) :
    Calls Try.prog 8 #[.slice a l.length cap, .slice c l.length cap2] w fun e w' => e = .returned (.bool true) ∧ Below w.heap.size w w' := same8 a c cap cap2 l hl w (rowV_8 hr) (rowV_8 hr2)
end Go.Proofs.Ytpbnjncbbllpdaa

/- ViewBytes, put together. -/
namespace Go.Proofs.Ytpbnjncbbllpdaa
end Go.Proofs.Ytpbnjncbbllpdaa
