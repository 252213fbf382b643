/- Texts put together: NumI Bf. -/
import Derived.Test.YtilnpkonhbmdpaaDoorZG21
/- numberOf: the number of a row of bytes. -/
namespace Go.Proofs.YtilnpkonhbmdpaaDoor
open Go.ChangeShapes Go.WideShapes Go.ChangeAt Go.RowKit
set_option maxHeartbeats 400000 in
set_option maxRecDepth 100000 in
/-- numberOf: the number of at most four bytes. -/
theorem inumber (a : Option Addr) (cap : Nat) (l : List UInt8) (hl : l.length ≤ 4) (w : World) (hr : Row8 w a l) :
    Calls Tryd.prog 58 #[.slice a l.length cap] w fun e w' => e = .returned (.int .i64 ((ofBE l : Nat) : Int)) ∧ w' = w := by
  have HR := hide hr
  clear hr
  go_enter Tryd.func58, Tryd.ntmps58
  go_wp2_with fail
  go_loop [3, 8] (fun r i => ∃ k y : Nat, k ≤ l.length ∧ i = .int .i64 k ∧ r = .int .i64 (y : Int) ∧ Hid (y = ofBE (l.take k))) (fun _ i => l.length - (intOf i).toNat)
  case atStart => exact ⟨0, 0, by omega, rfl, rfl, rfl⟩
  case round =>
    obtain ⟨k, y, hk, rfl, rfl, HY⟩ := hrel
    have hy : y < 256 ^ k := by have := ofBE_lt l k; rw [← unhide HY] at this; exact this
    by_cases hlt : k < l.length
    · obtain ⟨b, off, ha, hblt, hc⟩ := (unhide HR).at (by omega)
      subst ha
      have hy2 : y < 16777216 := Nat.lt_of_lt_of_le hy (Nat.le_trans (Nat.pow_le_pow_right (by decide) (show k ≤ 3 by omega)) (by decide))
      have hc1 := hc k hlt
      have hlt' : (k : Int) < (l.length : Int) := by omega
      have hcv := l[k].toNat_lt
      have h2 : bits BinOp.or IntKind.i64 ((y : Int) * 256) (l[k].toNat : Int) = ((y * 256 + l[k].toNat : Nat) : Int) := or_byte y l[k].toNat (by omega) (by omega)
      have c0 : (l[k].toNat : Int) ≤ 255 := by omega
      have y0 : (y : Int) ≤ 16777216 := by omega
      clear hc HR hy hblt hcv hy2
      go_wp2_with fail
      go_round
      case rel => exact ⟨k + 1, y * 256 + l[k].toNat, by omega, by go_num, rfl, by show _ = _; rw [ofBE_snoc l k hlt, unhide HY]⟩
      case measure => simp [intOf]; omega
    · have HV : Hid (((ofBE l : Nat) : Int) = (y : Int)) := by show _ = _; rw [unhide HY, List.take_of_length_le (by omega)]
      clear hy
      go_wp2_with fail
      go_ret
      exact ⟨ret_int (unhide HV).symm, rfl⟩
end Go.Proofs.YtilnpkonhbmdpaaDoor

/- A block that stands, and what is stored into it. -/
namespace Go.Proofs.YtilnpkonhbmdpaaDoor
open Go.ChangeShapes Go.WideShapes Go.ChangeAt Go.RowKit
/-- A block that stands and may be written. -/
structure BF (n : Nat) (cs : Array Value) (wA : World) : Prop where
  S : ∀ o, wA.cell? ⟨n, o, none⟩ = cs[o]?
  F : ∀ o, wA.frozen? ⟨n, o, none⟩ = false
  lt : n < wA.heap.size
theorem BF.keep {n : Nat} {cs : Array Value} {wA w' : World} (h : BF n cs wA) (hs : wA.heap.size ≤ w'.heap.size) (hb : w'.heap[n]? = wA.heap[n]?) : BF n cs w' :=
  ⟨fun o => (World.cell?_of_block hb).trans (h.S o), fun o => (World.frozen?_of_block hb).trans (h.F o), Nat.lt_of_lt_of_le h.lt hs⟩
theorem BF.below {n : Nat} {cs : Array Value} {wA w' : World} (h : BF n cs wA) (hb : Below wA.heap.size wA w') : BF n cs w' := h.keep hb.size (hb.block n h.lt)
theorem BF.alloc {n : Nat} {cs : Array Value} {wA : World} (h : BF n cs wA) (o : Obj) : BF n cs (wA.alloc o) := h.below ((Below.refl _ _).alloc (Nat.le_refl _) o)
theorem BF.grown {n : Nat} {cs : Array Value} {wA w' : World} {row : Option Nat} (h : BF n cs wA) (hg : wA.grownBy w' row) (hne : row ≠ some n) : BF n cs w' := h.keep hg.size (hg.block n h.lt (fun e => hne e.symm))
theorem BF.new (wA : World) (cs : Array Value) (t : TypeId) : BF wA.heap.size cs (wA.alloc (.cells cs t)) := ⟨fun o => World.cell?_alloc_mark wA _ _ _ o, fun o => by simp [go_sem], by simp⟩
theorem BF.set {n : Nat} {cs : Array Value} {wA : World} (h : BF n cs wA) (o : Nat) (ho : o < cs.size) (v : Value) : BF n (cs.setIfInBounds o v) (wA.setCell ⟨n, o, none⟩ v) := by
  refine ⟨fun k => ?_, fun k => by rw [World.frozen?_setCell]; exact h.F k, by simpa using h.lt⟩
  by_cases e : k = o
  · subst e
    have h1 : wA.cell? ⟨n, k, none⟩ = some cs[k] := by rw [h.S k]; exact Array.getElem?_eq_getElem ho
    rw [World.cell?_setCell_same _ _ _ h1, Array.getElem?_setIfInBounds_self_of_lt ho]
  · rw [World.cell?_setCell_other _ _ _ _ (by intro h2; injection h2 with _ h3; exact e h3.symm), h.S k, Array.getElem?_setIfInBounds_ne (Ne.symm e)]
theorem BF.drew {n : Nat} {cs : Array Value} {wA : World} (h : BF n cs wA) : BF n cs wA.drew := h.below (Below.refl _ _).drew
end Go.Proofs.YtilnpkonhbmdpaaDoor
