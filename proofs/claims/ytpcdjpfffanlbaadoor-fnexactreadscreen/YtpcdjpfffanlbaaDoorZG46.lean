/- Texts put together: ByteV MarkB. -/
import Derived.Test.YtpcdjpfffanlbaaDoorZByteS
import Derived.Test.YtpcdjpfffanlbaaDoorZRowV
/- Rows of bytes: copies and likeness, in the words of rows of values. -/
namespace Go.Proofs.YtpcdjpfffanlbaaDoor
open Go.ChangeShapes Go.WideShapes Go.ChangeAt Go.RowKit
theorem copyByte (a : Option Addr) (cap : Nat) (l : List UInt8) (hl : l.length ≤ 1048576) (w : World) (hr : RowV w a (B8 l)) :
  Calls Tryd.prog 5 #[.slice a l.length cap] w fun e w' => e = .returned (.slice (some ⟨w.heap.size, 0, none⟩) l.length l.length) ∧
   w'.ownsRow w.heap.size 5 1 (.slice (some ⟨w.heap.size, 0, none⟩) l.length l.length) l.length (B8 l) ∧ Below w.heap.size w w' := copy8 a cap l hl w (rowV_8 hr)
theorem sameByte (a c : Option Addr) (cap cap2 : Nat) (l : List UInt8) (hl : l.length ≤ 1048576) (w : World) (hr : RowV w a (B8 l)) (hr2 : RowV w c (B8 l)) :
  Calls Tryd.prog 8 #[.slice a l.length cap, .slice c l.length cap2] w fun e w' => e = .returned (.bool true) ∧ Below w.heap.size w w' := same8 a c cap cap2 l hl w (rowV_8 hr) (rowV_8 hr2)
end Go.Proofs.YtpcdjpfffanlbaaDoor

/- Rows of bytes: the laws' own helpers. -/
namespace Go.Proofs.YtpcdjpfffanlbaaDoor
open Go.ChangeShapes Go.WideShapes Go.ChangeAt Go.RowKit

def onesByte (n : Nat) : List Value := (List.range n).map fun j => .int .u8 (((1 + j : Nat) : Int) % 256)
set_option maxHeartbeats 400000 in
set_option maxRecDepth 100000 in
theorem markByte (v : Value) (n lo hi k0 : Nat) (xs : List Value) (hn : n ≤ 2000000) (hk0 : k0 ≤ 2000000) (w : World) (h : Held w lo hi 5 v n xs) :
  Calls Tryd.prog 9 #[v, .int .i64 (k0 : Int)] w fun e w' => e = .returned (.int .i64 ((k0 + n : Nat) : Int)) ∧ Held w' lo hi 5 v n ((List.range n).map fun j => .int .u8 (((k0 + j : Nat) : Int) % 256)) ∧ w.grownBy w' v.ownBlock := by
 have HX := hide (show xs.length = n from by have := h.1.1; omega)
 rcases h.1.2 with ⟨rfl, rfl⟩ | ⟨g, cap, cur, rfl, _⟩
 ·go_enter Tryd.func9, Tryd.ntmps9
  go_wp2_with fail
  go_loopw [1, 5] (fun kk i wr => kk = .int .i64 (k0 : Int) ∧ i = .int .i64 0 ∧ wr = w) (fun _ _ _ => 0)
  case atStart => exact ⟨rfl, rfl, rfl⟩
  case round =>
   obtain ⟨rfl, rfl, rfl⟩ := hrel
   have h' : Held wr lo hi 5 (.slice none 0 0) 0 ((List.range 0).map fun j => .int .u8 (((k0 + j : Nat) : Int) % 256)) := by
    have := List.length_eq_zero_iff.1 (unhide HX); subst this; exact h
   go_wp2_with fail
   go_ret
   exact ⟨ret_int (by simp), h', grownBy_refl _ _⟩
 ·have HH := hide h
  clear h
  go_enter Tryd.func9, Tryd.ntmps9
  go_wp2_with fail
  go_loopw [1, 5] (fun kk i wr => ∃ j q : Nat, j ≤ n ∧ q = k0 + j ∧ i = .int .i64 j ∧ kk = .int .i64 (q : Int) ∧ Held wr lo hi 5 (.slice (some ⟨g, 0, none⟩) n cap) n (markV xs (fun j => .int .u8 (((k0 + j : Nat) : Int) % 256)) j) ∧ w.grownBy wr (some g)) (fun _ i _ => n - (intOf i).toNat)
  case atStart => exact ⟨0, k0, by omega, rfl, rfl, rfl, by rw [markV_zero]; exact unhide HH, grownBy_refl _ _⟩
  case round =>
   clear HH
   obtain ⟨j, q, hj, hq, rfl, rfl, HH, hg⟩ := hrel
   by_cases hlt : j < n
   ·obtain ⟨u0, hu0⟩ := cell_of (xs := xs) (j := j) (by rw [unhide HX]; exact hlt)
    have hown := HH.1
    have hc2 : wr.cell? ⟨g, j, none⟩ = some u0 := by rw [hown.cellAt j (by omega), markV_at, hu0]
    have hf2 := hown.frozenAt j
    have hlt' : (j : Int) < (n : Int) := by omega
    have hq2 : (q : Int) ≤ 4000000 := by omega
    have R := (hown.stored j (.int .u8 (((k0 + j : Nat) : Int) % 256))).1
    rw [markV_set xs (fun j => .int .u8 (((k0 + j : Nat) : Int) % 256)) j (by rw [unhide HX]; exact hlt)] at R
    have RH : Held (wr.setCell ⟨g, j, none⟩ (.int .u8 (((k0 + j : Nat) : Int) % 256))) lo hi 5 (.slice (some ⟨g, 0, none⟩) n cap) n (markV xs (fun j => .int .u8 (((k0 + j : Nat) : Int) % 256)) (j + 1)) := ⟨R, HH.2.1, by have := HH.2.2; simpa using this⟩
    have RG := World.grownBy.trans' hg (stored_grown (g := g) (j := j) (u := .int .u8 (((k0 + j : Nat) : Int) % 256)))
    have hqe : ((k0 + j : Nat) : Int) = (q : Int) := by omega
    rw [hqe] at RH RG
    have RH := hide RH
    have RG := hide RG
    have HQ := hide hq
    clear hqe hq
    have hne : ((q : Int) % 256 != (q : Int) % 256) = false := by simp
    clear hown R HH hg hu0
    go_wp2_with fail
    go_roundw
    case rel => exact ⟨j + 1, q + 1, by omega, by have := unhide HQ; omega, by go_num, by go_num, unhide RH, unhide RG⟩
    case measure => simp [intOf]; omega
   ·have ej : j = n := by omega
    rw [ej, markV_all xs _ n (unhide HX).symm] at HH
    have eq2 : (q : Int) = ((k0 + n : Nat) : Int) := by omega
    clear hq
    go_wp2_with fail
    go_ret
    exact ⟨ret_int eq2, HH, hg⟩

theorem markByte1 (v : Value) (n lo hi : Nat) (q : Int) (xs : List Value) (hq : q = ((1 + n : Nat) : Int)) (hn : n ≤ 2000000) (w : World) (h : Held w lo hi 5 v n xs) :
  Calls Tryd.prog 9 #[v, .int .i64 1] w fun e w' => e = .returned (.int .i64 q) ∧ Held w' lo hi 5 v n (onesByte n) ∧ w.grownBy w' v.ownBlock := by
 subst hq; exact markByte v n lo hi 1 xs hn (by decide) w h
end Go.Proofs.YtpcdjpfffanlbaaDoor
