/- Two screens' sizes, one after the other, as the laws reckon them; a block that stands. -/
import Derived.Test.YteeklocaaidimaaScrL
namespace Go.Proofs.Yteeklocaaidimaa
open Go.ChangeShapes Go.WideShapes Go.ChangeAt Go.RowKit
set_option linter.unusedVariables false
/-- A block that stands. -/
structure Blk (n : Nat) (cs : Array Value) (wA : World) : Prop where
  S : ∀ o, wA.cell? ⟨n, o, none⟩ = cs[o]?
  lt : n < wA.heap.size
theorem Blk.below {n : Nat} {cs : Array Value} {wA w' : World} (h : Blk n cs wA) (hb : Below wA.heap.size wA w') : Blk n cs w' := ⟨fun o => (hb.cell (p := ⟨n, o, none⟩) h.lt).trans (h.S o), Nat.lt_of_lt_of_le h.lt hb.size⟩
theorem Blk.alloc {n : Nat} {cs : Array Value} {wA : World} (h : Blk n cs wA) (o : Obj) : Blk n cs (wA.alloc o) := h.below ((Below.refl _ _).alloc (Nat.le_refl _) o)
theorem Blk.drew {n : Nat} {cs : Array Value} {wA : World} (h : Blk n cs wA) : Blk n cs wA.drew := h.below (Below.refl _ _).drew
theorem Blk.new (wA : World) (cs : Array Value) (t : TypeId) : Blk wA.heap.size cs (wA.alloc (.cells cs t)) := ⟨fun o => World.cell?_alloc_mark wA _ _ _ o, by simp⟩
set_option maxHeartbeats 400000 in
set_option maxRecDepth 100000 in
theorem sizeStr2 (a : Option Addr) (cap : Nat) (l : List ByteArray) (Y : Nat) (hY : Y ≤ 1048576) (hl : l.length ≤ maxLen) (hsz : ∀ k (h : k < l.length), l[k].size ≤ maxLen) (w : World) (hr : RowV w a (cS l)) :
    Calls Try.prog 12 #[.slice a l.length cap, .int .i64 (Y : Int)] w fun e w' => ∃ x : Int, e = .returned (.int .i64 x) ∧ w' = w ∧ (x = -1 ∨ ((∃ z : Nat, x = (z : Int) ∧ z ≤ 1048576) ∧ l.length ≤ 1048576 ∧ ∀ k (h : k < l.length), l[k].size ≤ 1048576)) := by
  have HR := hide hr
  have HZ := hide hsz
  have HCL := hide (cS_len l)
  have hl2 : (l.length : Int) ≤ 9223372036854775807 := by unfold maxLen at hl; omega
  clear hr hsz hl
  by_cases big : Y < l.length
  · have b1 : (Y : Int) - (l.length : Int) < 0 := by omega
    go_enter Try.func12, Try.ntmps12
    go_wp2_with fail
    go_ret
    exact ⟨_, rfl, rfl, .inl rfl⟩
  · have hb : l.length ≤ Y := by omega
    go_enter Try.func12, Try.ntmps12
    go_wp2_with fail
    go_loop [1, 5] (fun s i => ∃ (k y : Nat), k ≤ l.length ∧ i = .int .i64 k ∧ s = .int .i64 (y : Int) ∧ y ≤ 1048576 ∧ Hid (∀ q (h : q < l.length), q < k → l[q].size ≤ 1048576)) (fun _ i => l.length - (intOf i).toNat)
    case atStart => exact ⟨0, Y - l.length, by omega, rfl, by go_num, by omega, fun q _ h => absurd h (Nat.not_lt_zero _)⟩
    case round =>
      obtain ⟨k, y, hk, rfl, rfl, hy, HF⟩ := hrel
      by_cases hlt : k < l.length
      · obtain ⟨b, off, ha, hblt, hc⟩ := (unhide HR).at (by rw [unhide HCL]; omega)
        subst ha
        have hc1 : w.cell? ⟨b, off + k, none⟩ = some (.string l[k]) := hc k _ (cS_at l k hlt)
        have hlt' : (k : Int) < (l.length : Int) := by omega
        have hsk : (l[k].size : Int) ≤ 9223372036854775807 := by have := unhide HZ k hlt; unfold maxLen at this; omega
        by_cases hf : l[k].size ≤ y
        · have HF2 : Hid (∀ q (h : q < l.length), q < k + 1 → l[q].size ≤ 1048576) := fun q h hq => by
            by_cases e : q = k
            · subst e; omega
            · exact unhide HF q h (by omega)
          clear hc HR HCL HF HZ
          go_wp2_with fail
          go_round
          case rel => exact ⟨k + 1, y - l[k].size, by omega, by go_num, by go_num, by omega, HF2⟩
          case measure => simp [intOf]; omega
        · clear hc
          go_wp2_with fail
          go_ret
          exact ⟨_, rfl, rfl, .inl rfl⟩
      · have HF2 : Hid (∀ q (h : q < l.length), l[q].size ≤ 1048576) := fun q h => unhide HF q h (by omega)
        go_wp2_with fail
        go_ret
        exact ⟨(y : Int), rfl, rfl, .inr ⟨⟨y, rfl, hy⟩, by omega, unhide HF2⟩⟩
set_option maxHeartbeats 1000000 in
set_option maxRecDepth 100000 in
theorem szScr2 (i0 i1 i2 i3 i4 i5 i6 i7 i8 : Int) (t : ByteArray) (a : Option Addr) (n cap : Nat) (b : Option Addr) (capb : Nat) (m : List ByteArray) (Y : Nat) (hY : Y ≤ 1048576) (ht : t.size ≤ maxLen) (hn : n ≤ maxLen) (hm : m.length ≤ maxLen) (hsz : ∀ k (h : k < m.length), m[k].size ≤ maxLen) (w : World) (hr : RowV w b (cS m)) :
    Calls Try.prog 4 #[.agg #[.int .i64 i0, .int .i64 i1, .int .i64 i2, .int .i64 i3, .int .i64 i4, .int .i64 i5, .int .i64 i6, .int .i64 i7, .int .i64 i8, .string t, .slice a n cap, .slice b m.length capb], .int .i64 (Y : Int)] w fun e w' => ∃ x : Int, e = .returned (.int .i64 x) ∧ Below w.heap.size w w' ∧ (x = -1 ∨ ((∃ z : Nat, x = (z : Int) ∧ z ≤ 1048576) ∧ t.size ≤ 1048576 ∧ n ≤ 1048576 ∧ m.length ≤ 1048576 ∧ ∀ k (h : k < m.length), m[k].size ≤ 1048576)) := by
  have ht2 : (t.size : Int) ≤ 9223372036854775807 := by unfold maxLen at ht; omega
  have HN := hide hn
  have HM := hide hm
  have HSZ := hide hsz
  have HR := hide hr
  have hb0 := (Below.refl w.heap.size w).alloc (Nat.le_refl _) (Obj.cells #[.int .i64 i0, .int .i64 i1, .int .i64 i2, .int .i64 i3, .int .i64 i4, .int .i64 i5, .int .i64 i6, .int .i64 i7, .int .i64 i8, .string t, .slice a n cap, .slice b m.length capb] 25)
  have HB0 := hide hb0
  clear hb0 hn hm hsz hr ht
  by_cases big : Y < t.size
  · have b1 : (Y : Int) - (t.size : Int) < 0 := by omega
    go_enter Try.func4, Try.ntmps4
    go_wp2_with fail
    go_ret
    exact ⟨_, rfl, unhide HB0, .inl rfl⟩
  obtain ⟨y, hy⟩ : ∃ y : Nat, y = Y - t.size := ⟨_, rfl⟩
  have b1 : (Y : Int) - (t.size : Int) = (y : Int) := by omega
  have b2 : ¬ (y : Int) < 0 := by omega
  have hy1 : y ≤ 1048576 := by omega
  have HT : Hid (t.size ≤ 1048576) := by show _ ≤ _; omega
  clear hy big
  go_enter Try.func4, Try.ntmps4
  go_wp2_with fail
  refine (szCell a cap n y hy1 (unhide HN) _).mono ?_
  rintro e w1 ⟨x, rfl, rfl, hx⟩
  rcases hx with rfl | ⟨z, rfl, hz1, hz2⟩
  · go_wp2_with fail
    go_ret
    exact ⟨_, rfl, unhide HB0, .inl rfl⟩
  have hz3 : ¬ (z : Int) < 0 := by omega
  go_wp2_with fail
  refine (sizeStr2 b capb m z (by omega) (unhide HM) (unhide HSZ) _ ((unhide HR).below (unhide HB0))).mono ?_
  rintro e w2 ⟨x, rfl, rfl, hx⟩
  rcases hx with rfl | ⟨⟨z2, rfl, hx0⟩, hx1, hx2⟩
  · go_wp2_with fail
    go_ret
    exact ⟨_, rfl, unhide HB0, .inl rfl⟩
  have hx3 : ¬ (z2 : Int) < 0 := by omega
  have HX2 := hide hx2
  clear hx2
  go_wp2_with fail
  go_ret
  exact ⟨_, rfl, unhide HB0, .inr ⟨⟨z2, rfl, hx0⟩, unhide HT, hz2, hx1, unhide HX2⟩⟩
end Go.Proofs.Yteeklocaaidimaa
