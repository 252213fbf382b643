/- The specification's source: numbers and rows of bytes that are drawn. -/
import Derived.Test.YtgnlgiihmgfghaaZSrcM
namespace Go.Proofs.Ytgnlgiihmgfghaa
open Go.ChangeShapes Go.WideShapes Go.ChangeAt Go.RowKit
theorem Row8.grown {w w' : World} {a : Option Addr} {l : List UInt8} {g : Nat} (h : Row8 w a l) (hg : w.grownBy w' (some g)) (hne : ApartOf a l g) : Row8 w' a l := by
 rcases hne with h0 | hne
 ·exact .inl h0
 rcases h with h | ⟨b, off, e, hlt, hc⟩
 ·exact .inl h
 ·exact .inr ⟨b, off, e, Nat.lt_of_lt_of_le hlt hg.size, fun i hi => (hg.cell_far ⟨b, off + i, none⟩ hlt (fun e2 => hne _ e (Option.some.inj e2))).trans (hc i hi)⟩
set_option maxRecDepth 100000 in
theorem snext (n g : Nat) (a : Option Addr) (cap : Nat) (l : List UInt8) (p s : Nat) (hn : 2 ≤ n) (hn2 : n ≤ 256) (hl : l.length ≤ 1048600) (hp : p ≤ 2000000) (hs : s < 2147483648) (w : World) (h : SrcAt w g a cap l p s) (hr : Row8 w a l) (hg : ApartOf a l g) :
  Calls Try.prog 16 #[.pointer (some ⟨g, 0, none⟩), .int .i64 (n : Int)] w fun e w' => ∃ x s' : Nat, e = .returned (.int .i64 (x : Int)) ∧ x < n ∧ s' < 2147483648 ∧ SrcAt w' g a cap l (p + 1) s' ∧ w.grownBy w' (some g) := by
 have HH := hide (sbyte g a cap l p s hl hp hs w h hr hg)
 have n1 : ¬ (n : Int) ≤ 1 := by omega
 have n2 : (n : Int) ≤ 256 := by omega
 have n3 : ¬ (n : Int) = 0 := by omega
 clear h hr hg hs
 go_enter Try.func16, Try.ntmps16
 go_wp2_with fail
 refine (unhide HH).mono ?_
 rintro e w2 ⟨x, s', rfl, hx, hs', hA, hG⟩
 obtain ⟨y, hy⟩ : ∃ y, y = x % n := ⟨_, rfl⟩
 have k2 : (x : Int) % (n : Int) = (y : Int) := by rw [hy]; exact (Int.natCast_emod x n).symm
 have k1 : (x : Int).tmod (n : Int) = (y : Int) := by rw [Int.tmod_eq_emod_of_nonneg (by omega)]; exact k2
 have HA := hide hA
 have HG := hide hG
 have HS := hide hs'
 have HM : Hid (y < n) := by rw [hy]; exact Nat.mod_lt x (show n > 0 by omega)
 clear hA hG hs' hy
 go_wp2_with fail
 go_ret
 exact ⟨y, s', rfl, unhide HM, unhide HS, unhide HA, unhide HG⟩
theorem ssource (a : Option Addr) (cap : Nat) (l : List UInt8) (s0 : Nat) (k1 : (l.length : Int).tmod 1000 = (s0 : Int)) (_k2 : (l.length : Int) % 1000 = (s0 : Int)) (w : World) :
  Calls Try.prog 9 #[.slice a l.length cap] w fun e w' => e = .returned (.pointer (some ⟨w.heap.size, 0, none⟩)) ∧ w' = w.alloc (.cells #[.slice a l.length cap, .int .i64 0, .int .i64 (s0 : Int)] 44) := by
 go_enter Try.func9, Try.ntmps9
 go_wp2_with fail
 go_ret
 exact ⟨rfl, rfl⟩
end Go.Proofs.Ytgnlgiihmgfghaa
