/- ReadScreen: the contract of the specification's function. -/
import Derived.Test.YtpcdjpfffanlbaaDoorZRcX
namespace Go.Proofs.YtpcdjpfffanlbaaDoor
open Go.ChangeShapes Go.WideShapes Go.ChangeAt Go.RowKit
set_option linter.unusedVariables false
theorem rsok_uniq {l : List UInt8} {i0 i1 i2 i3 i4 i5 i6 i7 i8 : Int} {t : ByteArray} {L : List (Int × Int)} {m : List ByteArray} {j0 j1 j2 j3 j4 j5 j6 j7 j8 : Int} {x : ByteArray} {M : List (Int × Int)} {n : List ByteArray} (h1 : RsOk l i0 i1 i2 i3 i4 i5 i6 i7 i8 t L m) (h2 : RsOk l j0 j1 j2 j3 j4 j5 j6 j7 j8 x M n) : i0 = j0 ∧ i1 = j1 ∧ i2 = j2 ∧ i3 = j3 ∧ i4 = j4 ∧ i5 = j5 ∧ i6 = j6 ∧ i7 = j7 ∧ i8 = j8 ∧ t = x ∧ L = M ∧ m = n := by
 obtain ⟨d, f, rs, hf, -, hx, hm, -, hl, -⟩ := h1
 obtain ⟨g, k, gs, hg, -, hy, hn, -, hk, -⟩ := h2
 rw [hf] at hg
 injection hg with hg
 injection hg with e1 hg
 injection hg with e2 hg
 injection hg with e3 e4
 subst e1 e2 e3 e4
 rw [hx] at hy
 simp only [List.cons.injEq, and_true] at hy
 rw [hm] at hn
 injection hn with hn
 obtain ⟨b0, b1, b2, b3, b4, b5, b6, b7, b8⟩ := hy
 exact ⟨b0, b1, b2, b3, b4, b5, b6, b7, b8, rfl, by rw [hl, hk, b0], hn⟩
set_option maxHeartbeats 4000000 in
set_option maxRecDepth 100000 in
theorem sreadscreen (a : Option Addr) (cap : Nat) (l : List UInt8) (i0 i1 i2 i3 i4 i5 i6 i7 i8 : Int) (t : ByteArray) (L : List (Int × Int)) (m : List ByteArray) (c : Int) (HI : RsIs l i0 i1 i2 i3 i4 i5 i6 i7 i8 t L m c) (w : World) (hr : RowV w a (B8 l)) :
  Calls Tryd.prog 4 #[.slice a l.length cap] w fun e w' => ∃ v u, e = .returned (.tuple #[.agg #[.int .i64 i0, .int .i64 i1, .int .i64 i2, .int .i64 i3, .int .i64 i4, .int .i64 i5, .int .i64 i6, .int .i64 i7, .int .i64 i8, .string t, v, u], .int .i64 c]) ∧ w'.ownsRow w.heap.size 53 2 v L.length (cP L) ∧ w'.ownsRow w.heap.size 9 1 u m.length (cS m) ∧ Below w.heap.size w w' := by
 have B0 := hide (Go.Joins.below_alloc1 w (Obj.cells #[.int .i64 0, .int .i64 0, .int .i64 0, .int .i64 0, .int .i64 0, .int .i64 0, .int .i64 0, .int .i64 0, .int .i64 0, .string ⟨#[]⟩, .slice none 0 0, .slice none 0 0] 26))
 have Y0 := hide (BF.new w #[.int .i64 0, .int .i64 0, .int .i64 0, .int .i64 0, .int .i64 0, .int .i64 0, .int .i64 0, .int .i64 0, .int .i64 0, .string ⟨#[]⟩, .slice none 0 0, .slice none 0 0] 26)
 have hcv := conv_row8 (cap := cap) (P := Tryd.prog) Tryd.underlying22 Tryd.underlying5 Tryd.underlying9 (rowV_8 (hr.below (unhide B0)))
 obtain ⟨len, hlen⟩ : ∃ len, l.length = len := ⟨_, rfl⟩
 rw [hlen] at hcv ⊢
 obtain ⟨s, hs⟩ : ∃ s : ByteArray, s = ⟨l.toArray⟩ := ⟨_, rfl⟩
 rw [← hs] at hcv
 have hsl : s.data.toList = l := by rw [hs]
 have hsz : s.size = len := by rw [← text_len, hsl]; exact hlen
 by_cases hlong : 65536 < len
 ·have hl2 : (65536 : Int) < (len : Int) := by omega
  obtain ⟨rfl, rfl, rfl, rfl, rfl, rfl, rfl, rfl, rfl, rfl, rfl, rfl, rfl⟩ : i0 = 0 ∧ i1 = 0 ∧ i2 = 0 ∧ i3 = 0 ∧ i4 = 0 ∧ i5 = 0 ∧ i6 = 0 ∧ i7 = 0 ∧ i8 = 0 ∧ t = ⟨#[]⟩ ∧ L = [] ∧ m = [] ∧ c = 2 := by
   rcases HI with ⟨-, h, -⟩ | ⟨h0, h1, h2, h3, h4, h5, h6, h7, h8, h9, h10, h11, ⟨-, h⟩ | ⟨h, -⟩⟩
   ·omega
   ·exact ⟨h0, h1, h2, h3, h4, h5, h6, h7, h8, h9, h10, h11, h⟩
   ·omega
  clear hr hcv hlen hsl hsz hs HI hlong
  go_enter Tryd.func4, Tryd.ntmps4
  go_wp2_with fail
  refine bodyPost_ret (v := .tuple #[.agg #[.int .i64 0, .int .i64 0, .int .i64 0, .int .i64 0, .int .i64 0, .int .i64 0, .int .i64 0, .int .i64 0, .int .i64 0, .string ⟨#[]⟩, .slice none 0 0, .slice none 0 0], .int .i64 2]) (by simp [results, Tryd.results4, go_sem]) rfl ⟨_, _, rfl, World.ownsRow_nil _ _ _ _, World.ownsRow_nil _ _ _ _, ?_⟩
  first | exact unhide B0 | exact Go.Joins.below_alloc1 w _ | (iterate 12 refine Below.setCell ?_ (by exact Nat.le_refl _) _; exact unhide B0)
 ·have T1 := hide (fun w => sl04 s (by omega) w)
  rw [hsl] at T1
  have hl2 : ¬ (65536 : Int) < (len : Int) := by omega
  have HII := hide HI
  have HLEN : Hid (l.length ≤ 65536) := by show _ ≤ _; omega
  clear hr hlen hsl hsz hs hlong HI
  go_enter Tryd.func4, Tryd.ntmps4
  go_wp2_with fail
  refine (unhide T1 _).mono ?_
  rintro e w3 ⟨R, j0, j1, j2, j3, j4, j5, j6, j7, j8, t0, L', m', v', u', rfl, ho3, ho4, hR, hb3⟩
  obtain ⟨a3, c3, rfl, -⟩ := ownZ_rowV ho3
  obtain ⟨a4, c4, rfl, -⟩ := ownZ_rowV ho4
  obtain ⟨n3, hn3⟩ : ∃ n3, L'.length = n3 := ⟨_, rfl⟩
  obtain ⟨n4, hn4⟩ : ∃ n4, m'.length = n4 := ⟨_, rfl⟩
  have HN3 := hide hn3
  have HN4 := hide hn4
  rw [hn3] at ho3 ⊢
  rw [hn4] at ho4 ⊢
  have O3 := hide (Go.Joins.ownsRow_le ((heldZ_of ho3).below (Go.Joins.below_alloc1 w3 (Obj.cells #[.int .i64 j0, .int .i64 j1, .int .i64 j2, .int .i64 j3, .int .i64 j4, .int .i64 j5, .int .i64 j6, .int .i64 j7, .int .i64 j8, .string t0, .slice a3 n3 c3, .slice a4 n4 c4] 26)) (Nat.le_refl _)).own (show w.heap.size + 1 ≤ _ from (unhide Y0).lt))
  have O4 := hide (Go.Joins.ownsRow_le ((heldZ_of ho4).below (Go.Joins.below_alloc1 w3 (Obj.cells #[.int .i64 j0, .int .i64 j1, .int .i64 j2, .int .i64 j3, .int .i64 j4, .int .i64 j5, .int .i64 j6, .int .i64 j7, .int .i64 j8, .string t0, .slice a3 n3 c3, .slice a4 n4 c4] 26)) (Nat.le_refl _)).own (show w.heap.size + 1 ≤ _ from (unhide Y0).lt))
  have Y3 := hide (((unhide Y0).below hb3).alloc (Obj.cells #[.int .i64 j0, .int .i64 j1, .int .i64 j2, .int .i64 j3, .int .i64 j4, .int .i64 j5, .int .i64 j6, .int .i64 j7, .int .i64 j8, .string t0, .slice a3 n3 c3, .slice a4 n4 c4] 26))
  have A3 := hide (BF.new w3 #[.int .i64 j0, .int .i64 j1, .int .i64 j2, .int .i64 j3, .int .i64 j4, .int .i64 j5, .int .i64 j6, .int .i64 j7, .int .i64 j8, .string t0, .slice a3 n3 c3, .slice a4 n4 c4] 26)
  have B3 := hide (((unhide B0).trans (hb3.mono (unhide B0).size)).alloc (Nat.le_trans (unhide B0).size hb3.size) (Obj.cells #[.int .i64 j0, .int .i64 j1, .int .i64 j2, .int .i64 j3, .int .i64 j4, .int .i64 j5, .int .i64 j6, .int .i64 j7, .int .i64 j8, .string t0, .slice a3 n3 c3, .slice a4 n4 c4] 26))
  have hne : ¬ w3.heap.size = w.heap.size := by have := (unhide Y0).lt; have := hb3.size; omega
  have z := (unhide Y3).S
  have zf := (unhide Y3).F
  have qa := (unhide A3).S
  clear hb3 ho3 ho4 B0 Y0 hcv T1 hn3 hn4
  rcases hR with ⟨rfl, hok⟩ | ⟨rfl, hno⟩
  ·obtain ⟨rfl, v0, v1, v2, v3, v4, v5, v6, v7, v8, vt, vL, vm⟩ : c = 0 ∧ i0 = j0 ∧ i1 = j1 ∧ i2 = j2 ∧ i3 = j3 ∧ i4 = j4 ∧ i5 = j5 ∧ i6 = j6 ∧ i7 = j7 ∧ i8 = j8 ∧ t = t0 ∧ L = L' ∧ m = m' := by
    rcases unhide HII with ⟨h0, -, h⟩ | ⟨-, -, -, -, -, -, -, -, -, -, -, -, ⟨h, -⟩ | ⟨-, h, -⟩⟩
    ·exact ⟨h0, rsok_uniq h hok⟩
    ·have := unhide HLEN; omega
    ·exact absurd hok (h _ _ _ _ _ _ _ _ _ _ _ _)
   clear hok HII
   subst v0 v1 v2 v3 v4 v5 v6 v7 v8 vt vL vm
   go_wp2_with fail
   refine bodyPost_ret (v := .tuple #[.agg #[.int .i64 i0, .int .i64 i1, .int .i64 i2, .int .i64 i3, .int .i64 i4, .int .i64 i5, .int .i64 i6, .int .i64 i7, .int .i64 i8, .string t, .slice a3 n3 c3, .slice a4 n4 c4], .int .i64 0]) (by simp [results, Tryd.results4, go_sem, z]) rfl ⟨_, _, rfl, ?_, ?_, ?_⟩
   ·rw [unhide HN3]
    refine Go.Joins.ownsRow_le (base := w.heap.size + 1) ?_ (by omega)
    iterate 12 refine ownsRow_setCell_below ?_ (by exact Nat.lt_succ_self _) _
    exact unhide O3
   ·rw [unhide HN4]
    refine Go.Joins.ownsRow_le (base := w.heap.size + 1) ?_ (by omega)
    iterate 12 refine ownsRow_setCell_below ?_ (by exact Nat.lt_succ_self _) _
    exact unhide O4
   ·iterate 12 refine Below.setCell ?_ (by exact Nat.le_refl _) _
    exact unhide B3
  ·obtain ⟨rfl, rfl, rfl, rfl, rfl, rfl, rfl, rfl, rfl, rfl, rfl, rfl, rfl⟩ : i0 = 0 ∧ i1 = 0 ∧ i2 = 0 ∧ i3 = 0 ∧ i4 = 0 ∧ i5 = 0 ∧ i6 = 0 ∧ i7 = 0 ∧ i8 = 0 ∧ t = ⟨#[]⟩ ∧ L = [] ∧ m = [] ∧ c = 3 := by
    rcases unhide HII with ⟨-, -, h⟩ | ⟨h0, h1, h2, h3, h4, h5, h6, h7, h8, h9, h10, h11, ⟨h, -⟩ | ⟨-, -, h⟩⟩
    ·exact absurd h (hno _ _ _ _ _ _ _ _ _ _ _ _)
    ·have := unhide HLEN; omega
    ·exact ⟨h0, h1, h2, h3, h4, h5, h6, h7, h8, h9, h10, h11, h⟩
   clear hno HII
   go_wp2_with fail
   refine bodyPost_ret (v := .tuple #[.agg #[.int .i64 0, .int .i64 0, .int .i64 0, .int .i64 0, .int .i64 0, .int .i64 0, .int .i64 0, .int .i64 0, .int .i64 0, .string ⟨#[]⟩, .slice none 0 0, .slice none 0 0], .int .i64 3]) (by simp [results, Tryd.results4, go_sem, z]) rfl ⟨_, _, rfl, World.ownsRow_nil _ _ _ _, World.ownsRow_nil _ _ _ _, ?_⟩
   iterate 12 refine Below.setCell ?_ (by exact Nat.le_refl _) _
   exact unhide B3
end Go.Proofs.YtpcdjpfffanlbaaDoor
