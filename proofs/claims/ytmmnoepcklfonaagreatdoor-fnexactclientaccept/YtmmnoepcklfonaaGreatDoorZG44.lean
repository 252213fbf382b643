/- Texts put together: SizeS MrL. -/
import Derived.Test.YtmmnoepcklfonaaGreatDoorZStrS
import Derived.Test.YtmmnoepcklfonaaGreatDoorZG15
import Derived.Lib.SmallJoins
/- The size of a list of texts, as the laws reckon it. -/
namespace Go.Proofs.YtmmnoepcklfonaaGreatDoor
open Go.ChangeShapes Go.WideShapes Go.ChangeAt Go.RowKit
end Go.Proofs.YtmmnoepcklfonaaGreatDoor

/- Mirrors in the law's own words: their size, their copies, two that are alike. -/
namespace Go.Proofs.YtmmnoepcklfonaaGreatDoor
open Go.ChangeShapes Go.WideShapes Go.ChangeAt Go.RowKit
set_option linter.unusedVariables false
set_option maxHeartbeats 400000 in
set_option maxRecDepth 100000 in
theorem sizeStr2 (a : Option Addr) (cap : Nat) (l : List ByteArray) (Y : Nat) (hY : Y ≤ 1048576) (hl : l.length ≤ maxLen) (hsz : ∀ k (h : k < l.length), l[k].size ≤ maxLen) (w : World) (hr : RowV w a (cS l)) :
    Calls Tryz.prog 33 #[.slice a l.length cap, .int .i64 (Y : Int)] w fun e w' => ∃ x : Int, e = .returned (.int .i64 x) ∧ w' = w ∧ (x = -1 ∨ (∃ z : Nat, x = (z : Int) ∧ z + l.length ≤ Y ∧ l.length ≤ 1048576 ∧ ∀ k (h : k < l.length), l[k].size ≤ 1048576)) := by
  have HR := hide hr
  have HZ := hide hsz
  have HCL := hide (cS_len l)
  have hl2 : (l.length : Int) ≤ 9223372036854775807 := by unfold maxLen at hl; omega
  clear hr hsz hl
  by_cases big : Y < l.length
  · have b1 : (Y : Int) - (l.length : Int) < 0 := by omega
    go_enter Tryz.func33, Tryz.ntmps33
    go_wp2_with fail
    go_ret
    exact ⟨_, rfl, rfl, .inl rfl⟩
  · have hb : l.length ≤ Y := by omega
    go_enter Tryz.func33, Tryz.ntmps33
    go_wp2_with fail
    go_loop [1, 5] (fun s i => ∃ (k y : Nat), k ≤ l.length ∧ i = .int .i64 k ∧ s = .int .i64 (y : Int) ∧ y + l.length ≤ Y ∧ Hid (∀ q (h : q < l.length), q < k → l[q].size ≤ 1048576)) (fun _ i => l.length - (intOf i).toNat)
    case atStart => exact ⟨0, Y - l.length, by omega, rfl, by go_num, by omega, fun q _ h => absurd h (Nat.not_lt_zero _)⟩
    case round =>
      obtain ⟨k, y, hk, rfl, rfl, hy, HF⟩ := hrel
      by_cases hlt : k < l.length
      · obtain ⟨b, off, ha, hblt, hc⟩ := (unhide HR).at (by rw [unhide HCL]; omega)
        subst ha
        have hc1 : w.cell? ⟨b, off + k, none⟩ = some (.string l[k]) := hc k _ (cS_at l k hlt)
        have hlt' : (k : Int) < (l.length : Int) := by omega
        have hsk : (l[k].size : Int) ≤ 9223372036854775807 := by have := unhide HZ k hlt; unfold maxLen at this; omega
        by_cases hf : l[k].size ≤ y
        · have HF2 : Hid (∀ q (h : q < l.length), q < k + 1 → l[q].size ≤ 1048576) := fun q h hq => by
            by_cases e : q = k
            · subst e; omega
            · exact unhide HF q h (by omega)
          clear hc HR HCL HF HZ
          go_wp2_with fail
          go_round
          case rel => exact ⟨k + 1, y - l[k].size, by omega, by go_num, by go_num, by omega, HF2⟩
          case measure => simp [intOf]; omega
        · clear hc
          go_wp2_with fail
          go_ret
          exact ⟨_, rfl, rfl, .inl rfl⟩
      · have HF2 : Hid (∀ q (h : q < l.length), l[q].size ≤ 1048576) := fun q h => unhide HF q h (by omega)
        go_wp2_with fail
        go_ret
        exact ⟨(y : Int), rfl, rfl, .inr ⟨y, rfl, hy, by omega, unhide HF2⟩⟩
set_option maxHeartbeats 2000000 in
set_option maxRecDepth 100000 in
theorem szMr (nb vw vh : Int) (a : Option Addr) (cap n : Nat) (l : List ByteArray) (HN : Hid (l.length = n)) (Y : Nat) (hY : Y ≤ 1048576) (hl : Hid (n ≤ maxLen)) (hsz : Hid (∀ k (h : k < l.length), l[k].size ≤ maxLen)) (w : World) (hr : RowV w a (cS l)) :
    Calls Tryz.prog 15 #[.agg #[.int .i64 nb, .int .i64 vw, .int .i64 vh, .slice a n cap], .int .i64 (Y : Int)] w fun e w' => ∃ x : Int, e = .returned (.int .i64 x) ∧ Below w.heap.size w w' ∧ (x = -1 ∨ ∃ z : Nat, x = (z : Int) ∧ z + n ≤ Y ∧ n ≤ 1048576 ∧ ∀ k (h : k < l.length), l[k].size ≤ 1048576) := by
  have HB := hide (Go.Joins.below_alloc1 w (.cells #[.int .i64 nb, .int .i64 vw, .int .i64 vh, .slice a n cap] 24))
  have HR := hide (hr.below (unhide HB))
  clear hr
  go_enter Tryz.func15, Tryz.ntmps15
  go_wp2_with fail
  obtain rfl : n = l.length := (unhide HN).symm
  refine (sizeStr2 a cap l Y hY (unhide hl) (unhide hsz) _ (unhide HR)).mono ?_
  rintro e w2 ⟨x, rfl, rfl, hx⟩
  have HB2 := HB
  clear HB HR
  rcases hx with rfl | ⟨z, rfl, hz, h1, h2⟩
  · go_wp2_with fail
    go_ret
    exact ⟨_, rfl, unhide HB2, .inl rfl⟩
  · have hz0 : ¬ (z : Int) < 0 := by omega
    have H1 := hide h1
    have H2 := hide h2
    clear h1 h2
    go_wp2_with fail
    go_ret
    exact ⟨_, rfl, unhide HB2, .inr ⟨z, rfl, hz, unhide H1, unhide H2⟩⟩
set_option maxHeartbeats 2000000 in
set_option maxRecDepth 100000 in
theorem toMr (nb vw vh : Int) (a : Option Addr) (cap n : Nat) (l : List ByteArray) (HN : Hid (l.length = n)) (hl : n ≤ 1048576) (w : World) (hr : RowV w a (cS l)) :
    Calls Tryz.prog 21 #[.agg #[.int .i64 nb, .int .i64 vw, .int .i64 vh, .slice a n cap]] w fun e w' => ∃ g, e = .returned (.agg #[.int .i64 nb, .int .i64 vw, .int .i64 vh, .slice (some ⟨g, 0, none⟩) n n]) ∧ w'.ownsRow w.heap.size 9 1 (.slice (some ⟨g, 0, none⟩) n n) n (cS l) ∧ Below w.heap.size w w' := by
  have HR := hide hr
  obtain rfl : n = l.length := (unhide HN).symm
  clear hr HN
  have HB0 := hide (Go.Joins.below_alloc3 w (Obj.cells #[.int .i64 nb, .int .i64 vw, .int .i64 vh, .slice a l.length cap] 24) (Obj.cells #[.int .i64 0, .int .i64 0, .int .i64 0, .slice none 0 0] 32) (Obj.cells #[.int .i64 nb, .int .i64 vw, .int .i64 vh, .slice none 0 0] 32))
  go_enter Tryz.func21, Tryz.ntmps21
  go_wp2_with fail
  refine (copyString a cap l hl _ ((unhide HR).below (unhide HB0))).mono ?_
  rintro e w2 ⟨rfl, ho2, hb2⟩
  simp only [World.size_alloc] at ho2
  obtain ⟨hc2, hf2⟩ := bcell hb2
  have x0 : ∀ o, w2.cell? ⟨w.heap.size + 1, o, none⟩ = (#[.int .i64 0, .int .i64 0, .int .i64 0, .slice none 0 0] : Array Value)[o]? := fun o => by
    rw [hc2 _ _ (by simp), World.cell?_alloc_past _ _ _ (by simp), show (⟨w.heap.size + 1, o, none⟩ : Addr) = ⟨(w.alloc (Obj.cells #[.int .i64 nb, .int .i64 vw, .int .i64 vh, .slice a l.length cap] 24)).heap.size, o, none⟩ from by simp]; exact World.cell?_alloc_mark _ _ _ _ o
  have x1 : ∀ o, w2.frozen? ⟨w.heap.size + 1, o, none⟩ = false := fun o => (hf2 _ _ (by simp)).trans (by simp [go_sem])
  have y0 : ∀ o, w2.cell? ⟨w.heap.size + 1 + 1, o, none⟩ = (#[.int .i64 nb, .int .i64 vw, .int .i64 vh, .slice none 0 0] : Array Value)[o]? := fun o => by
    rw [hc2 _ _ (by simp), show (⟨w.heap.size + 1 + 1, o, none⟩ : Addr) = ⟨((w.alloc (Obj.cells #[.int .i64 nb, .int .i64 vw, .int .i64 vh, .slice a l.length cap] 24)).alloc (Obj.cells #[.int .i64 0, .int .i64 0, .int .i64 0, .slice none 0 0] 32)).heap.size, o, none⟩ from by simp]; exact World.cell?_alloc_mark _ _ _ _ o
  have y1 : ∀ o, w2.frozen? ⟨w.heap.size + 1 + 1, o, none⟩ = false := fun o => (hf2 _ _ (by simp)).trans (by simp [go_sem])
  have HO2 := hide ho2
  have HB2 := hide ((unhide HB0).trans (hb2.mono (unhide HB0).size))
  clear ho2 hb2 hc2 hf2
  go_wp2_with fail
  refine bodyPost_ret (v := .agg #[.int .i64 nb, .int .i64 vw, .int .i64 vh, .slice (some ⟨w.heap.size + 1 + 1 + 1, 0, none⟩) l.length l.length]) (by simp [results, Tryz.results21, go_sem, x0]) rfl ⟨w.heap.size + 1 + 1 + 1, rfl, ?_, ?_⟩
  · have hl1 : w.heap.size + 1 < w.heap.size + 1 + 1 + 1 := by omega
    have hl2 : w.heap.size + 1 + 1 < w.heap.size + 1 + 1 + 1 := by omega
    refine Go.Joins.ownsRow_le (base := w.heap.size + 1 + 1 + 1) ?_ (by omega)
    repeat refine ownsRow_setCell_below ?_ (by first | exact hl1 | exact hl2) _
    exact unhide HO2
  · have hl1 : w.heap.size ≤ w.heap.size + 1 := by omega
    have hl2 : w.heap.size ≤ w.heap.size + 1 + 1 := by omega
    repeat refine Below.setCell ?_ (by first | exact hl1 | exact hl2) _
    exact unhide HB2
set_option maxHeartbeats 2000000 in
set_option maxRecDepth 100000 in
theorem eqMr (nb vw vh : Int) (a c : Option Addr) (cap cap2 n : Nat) (l : List ByteArray) (HN : Hid (l.length = n)) (hl : n ≤ 1048576) (w : World) (hr : RowV w a (cS l)) (hr2 : RowV w c (cS l)) :
    Calls Tryz.prog 28 #[.agg #[.int .i64 nb, .int .i64 vw, .int .i64 vh, .slice a n cap], .agg #[.int .i64 nb, .int .i64 vw, .int .i64 vh, .slice c n cap2]] w fun e w' => e = .returned (.bool true) ∧ Below w.heap.size w w' := by
  have HB := hide (Go.Joins.below_alloc2 w (.cells #[.int .i64 nb, .int .i64 vw, .int .i64 vh, .slice a n cap] 32) (.cells #[.int .i64 nb, .int .i64 vw, .int .i64 vh, .slice c n cap2] 32))
  have HR := hide (hr.below (unhide HB))
  have HR2 := hide (hr2.below (unhide HB))
  have n0 : (nb != nb) = false := by simp
  have n1 : (vw != vw) = false := by simp
  have n2 : (vh != vh) = false := by simp
  clear hr hr2
  obtain rfl : n = l.length := (unhide HN).symm
  clear HN
  go_enter Tryz.func28, Tryz.ntmps28
  go_wp2_with fail
  refine (sameString a c cap cap2 l hl _ (unhide HR) (unhide HR2)).mono ?_
  rintro e w2 ⟨rfl, hb2⟩
  have HB2 := hide ((unhide HB).trans (hb2.mono (unhide HB).size))
  clear hb2 HB HR HR2
  go_wp2_with fail
  go_ret
  exact ⟨rfl, unhide HB2⟩
end Go.Proofs.YtmmnoepcklfonaaGreatDoor
