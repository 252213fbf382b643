/- The specification's source: numbers and rows of bytes that are drawn. -/
import Derived.Test.YtoplijjddhecgaaDoorZSrcM
namespace Go.Proofs.YtoplijjddhecgaaDoor
open Go.ChangeShapes Go.WideShapes Go.ChangeAt Go.RowKit
theorem Tryd.infP5 : (Tryd.prog.info? 5).map (fun i => (i.zero, i.size, i.bytes)) = some (some (.int .u8 0), 1, 1) := by kernel_rfl
theorem Row8.grown {w w' : World} {a : Option Addr} {l : List UInt8} {g : Nat} (h : Row8 w a l) (hg : w.grownBy w' (some g)) (hne : ApartOf a l g) : Row8 w' a l := by
  rcases hne with h0 | hne
  · exact .inl h0
  rcases h with h | ⟨b, off, e, hlt, hc⟩
  · exact .inl h
  · exact .inr ⟨b, off, e, Nat.lt_of_lt_of_le hlt hg.size, fun i hi => (hg.cell_far ⟨b, off + i, none⟩ hlt (fun e2 => hne _ e (Option.some.inj e2))).trans (hc i hi)⟩
theorem alloc_at_old (w : World) (o : Obj) (k : Nat) (h : k < w.heap.size) : (w.alloc o).heap[k]? = w.heap[k]? := by
  show (w.heap.push o)[k]? = _; rw [Array.getElem?_push, if_neg (by omega)]
set_option maxRecDepth 100000 in
theorem snext (n g : Nat) (a : Option Addr) (cap : Nat) (l : List UInt8) (p s : Nat) (hn : 2 ≤ n) (hn2 : n ≤ 256) (hl : l.length ≤ 1048600) (hp : p ≤ 2000000) (hs : s < 2147483648) (w : World) (h : SrcAt w g a cap l p s) (hr : Row8 w a l) (hg : ApartOf a l g) :
    Calls Tryd.prog 25 #[.pointer (some ⟨g, 0, none⟩), .int .i64 (n : Int)] w fun e w' => ∃ x s' : Nat, e = .returned (.int .i64 (x : Int)) ∧ x < n ∧ s' < 2147483648 ∧ SrcAt w' g a cap l (p + 1) s' ∧ w.grownBy w' (some g) := by
  have HH := hide (sbyte g a cap l p s hl hp hs w h hr hg)
  have n1 : ¬ (n : Int) ≤ 1 := by omega
  have n2 : (n : Int) ≤ 256 := by omega
  have n3 : ¬ (n : Int) = 0 := by omega
  clear h hr hg hs
  go_enter Tryd.func25, Tryd.ntmps25
  go_wp2_with fail
  refine (unhide HH).mono ?_
  rintro e w2 ⟨x, s', rfl, hx, hs', hA, hG⟩
  obtain ⟨y, hy⟩ : ∃ y, y = x % n := ⟨_, rfl⟩
  have k2 : (x : Int) % (n : Int) = (y : Int) := by rw [hy]; exact (Int.natCast_emod x n).symm
  have k1 : (x : Int).tmod (n : Int) = (y : Int) := by rw [Int.tmod_eq_emod_of_nonneg (by omega)]; exact k2
  have HA := hide hA
  have HG := hide hG
  have HS := hide hs'
  have HM : Hid (y < n) := by rw [hy]; exact Nat.mod_lt x (show n > 0 by omega)
  clear hA hG hs' hy
  go_wp2_with fail
  go_ret
  exact ⟨y, s', rfl, unhide HM, unhide HS, unhide HA, unhide HG⟩
theorem src_far {w w2 w3 : World} {o : Obj} {e : TypeId} {v : Value} {n g : Nat} {xs : List Value} (hz : w.heap.size ≤ w2.heap.size) (hown : w2.ownsRow w.heap.size e 1 v n xs) (hg : (w2.alloc o).grownBy w3 v.ownBlock) : (w.grownBy w2 (some g) → w.grownBy w3 (some g)) := fun h =>
  ⟨hg.os.trans h.os, hg.tape.trans h.tape, hg.output.trans h.output, by have := hg.size; simp at this; omega, fun k hk hr => by
    have h1 : (w2.alloc o).heap[k]? = w2.heap[k]? := alloc_at_old w2 o k (by omega)
    have h2 : w3.heap[k]? = (w2.alloc o).heap[k]? := hg.block k (by simp; omega) (fun e2 => by have := (hown.lt k e2.symm).1; omega)
    exact h2.trans (h1.trans (h.block k hk hr))⟩
theorem src_kept {w w2 w3 : World} {o : Obj} {e : TypeId} {v : Value} {n g cap p s : Nat} {a : Option Addr} {l : List UInt8} {xs : List Value} (h : SrcAt w2 g a cap l p s) (hlt : g < w.heap.size) (hown : w2.ownsRow w.heap.size e 1 v n xs) (hg : (w2.alloc o).grownBy w3 v.ownBlock) : SrcAt w3 g a cap l p s := by
  have h1 : ArrAt (w2.alloc o) g _ _ := ArrAt.alloc h o
  exact (hg.block g h1.lt (fun e2 => by have := (hown.lt g e2.symm).1; omega)).trans h1
theorem ssource (a : Option Addr) (cap : Nat) (l : List UInt8) (s0 : Nat) (k1 : (l.length : Int).tmod 1000 = (s0 : Int)) (_k2 : (l.length : Int) % 1000 = (s0 : Int)) (w : World) :
    Calls Tryd.prog 11 #[.slice a l.length cap] w fun e w' => e = .returned (.pointer (some ⟨w.heap.size, 0, none⟩)) ∧ w' = w.alloc (.cells #[.slice a l.length cap, .int .i64 0, .int .i64 (s0 : Int)] 51) := by
  go_enter Tryd.func11, Tryd.ntmps11
  go_wp2_with fail
  go_ret
  exact ⟨rfl, rfl⟩
theorem own_mono {w : World} {base base' : Nat} {e : TypeId} {v : Value} {n : Nat} {xs : List Value} (h : w.ownsRow base e 1 v n xs) (hb : base' ≤ base) : w.ownsRow base' e 1 v n xs := by
  refine ⟨h.1, ?_⟩
  rcases h.2 with h2 | ⟨g, cap, cur, e1, h3, rest⟩
  · exact .inl h2
  · exact .inr ⟨g, cap, cur, e1, Nat.le_trans hb h3, rest⟩
end Go.Proofs.YtoplijjddhecgaaDoor
