/- Lists of texts in the laws' own words, their lengths as letters. -/
import Derived.Test.YthbkcijkokaoeaaMrL
import Derived.Test.YthbkcijkokaoeaaMarkS
namespace Go.Proofs.Ythbkcijkokaoeaa
open Go.ChangeShapes Go.WideShapes Go.ChangeAt Go.RowKit
set_option linter.unusedVariables false
theorem sameStrN (a c : Option Addr) (cap cap2 n : Nat) (l : List ByteArray) (HN : Hid (l.length = n)) (hl : n ≤ 1048576) (w : World) (hr : RowV w a (cS l)) (hr2 : RowV w c (cS l)) :
    Calls Try.prog 16 #[.slice a n cap, .slice c n cap2] w fun e w' => e = .returned (.bool true) ∧ Below w.heap.size w w' := by
  obtain rfl : n = l.length := (unhide HN).symm
  exact sameString a c cap cap2 l hl w hr hr2
theorem markStrN (v : Value) (n lo hi k0 q : Nat) (HQ : Hid (q = k0 + n)) (xs : List Value) (hn : n ≤ 2000000) (h1 : 0 < k0) (hk0 : k0 ≤ 2000000) (w : World) (h : Held w lo hi 9 v n xs) :
    Calls Try.prog 20 #[v, .int .i64 (k0 : Int)] w fun e w' => e = .returned (.int .i64 (q : Int)) ∧ Held w' lo hi 9 v n ((List.range n).map fun j => .string (mtS (k0 + j))) ∧ w.grownBy w' v.ownBlock := by
  rw [unhide HQ]
  exact markString v n lo hi k0 xs hn h1 hk0 w h
theorem markStr1N (v : Value) (n lo hi q : Nat) (HQ : Hid (q = 1 + n)) (xs : List Value) (hn : n ≤ 2000000) (w : World) (h : Held w lo hi 9 v n xs) :
    Calls Try.prog 20 #[v, .int .i64 1] w fun e w' => e = .returned (.int .i64 (q : Int)) ∧ Held w' lo hi 9 v n ((List.range n).map fun j => .string (mtS (1 + j))) ∧ w.grownBy w' v.ownBlock :=
  markStrN v n lo hi 1 q HQ xs hn (by decide) (by decide) w h
end Go.Proofs.Ythbkcijkokaoeaa
