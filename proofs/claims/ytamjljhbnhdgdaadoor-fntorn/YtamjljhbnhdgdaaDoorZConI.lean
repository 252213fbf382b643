/- slices.Grow of nil, slices.Concat of two rows of bytes, impl.frameSumOf. -/
import Derived.Test.YtamjljhbnhdgdaaDoorZG25
import Derived.Test.YtamjljhbnhdgdaaDoorZG1
import Derived.Test.YtamjljhbnhdgdaaDoorZG0
import Derived.Lib.AppendZerosOnto
namespace Go.Proofs.YtamjljhbnhdgdaaDoor
open Go.ChangeShapes Go.WideShapes Go.ChangeAt Go.RowKit
set_option linter.unusedVariables false
theorem Tryd.infC5 : (Tryd.prog.info? 5).map (fun i => (i.zero, i.size, i.bytes)) = some (some (.int .u8 0), 1, 1) := by kernel_rfl
theorem zero_cells (n : Nat) : (Builtin.zeroCells (Value.int .u8 0).cells n).size = n := by simp [Builtin.zeroCells, Value.cells]
set_option maxHeartbeats 1000000 in
set_option maxRecDepth 100000 in
theorem igrow (n : Nat) (h0 : 0 < n) (hn : n ≤ 1048576) (w : World) :
  Calls Tryd.prog 66 #[.slice none 0 0, .int .i64 (n : Int)] w fun e w' => ∃ g c, e = .returned (.slice (some ⟨g, 0, none⟩) 0 c) ∧ w'.ownsRow w.heap.size 5 1 (.slice (some ⟨g, 0, none⟩) 0 c) 0 (B8 []) ∧ Below w.heap.size w w' := by
 obtain ⟨i0, hi, hz0, hz1, hz2⟩ := info_parts Tryd.infC5
 have h1 : ¬ ((n : Int) < 0) := by omega
 have h2 : (0 : Int) < (n : Int) := by omega
 have hold : (Builtin.firstCells i0.size 0 (.slice none 0 0)).run Tryd.prog w.drew = .ok ([] : List Value).toArray w.drew := run_firstCells_none w.drew i0.size 0 0 0
 have hrz : ∀ ty, (Builtin.append_ #[22, 3] ty #[.slice none 0 0, .int .i64 (n : Int)]).run Tryd.prog w = .ok (.slice (some ⟨w.heap.size, 0, none⟩) n (grownCap w n 0 5)) (w.drew.alloc (.cells (([] : List Value).toArray ++ Builtin.zeroCells (Value.int .u8 0).cells n ++ Builtin.zeroCells (Value.int .u8 0).cells (grownCap w n 0 5 - n)) 5)) := fun ty => by
  have h := Lib.run_append_grow_zeros w 22 3 ty 5 i0 (.int .u8 0) .i64 .i64 Tryd.underlying22 Tryd.underlying3 hi hz0 none 0 0 [] hold n h0 (by omega) (by omega) (by omega) (by rw [hz2]; omega) (by rw [hz2]; exact growslice_fits (by omega) (by omega))
  rw [Nat.zero_add] at h
  exact h
 have hGn : n ≤ grownCap w n 0 5 := grownCap_ge w _ _ _
 have hGm : grownCap w n 0 5 ≤ maxLen := grownCap_le_maxLen w n 0 5 (by unfold maxLen; omega)
 obtain ⟨G, hG⟩ : ∃ G, G = grownCap w n 0 5 := ⟨_, rfl⟩
 rw [← hG] at hrz hGn hGm
 obtain ⟨Z, hZ⟩ : ∃ Z, Z = (([] : List Value).toArray ++ Builtin.zeroCells (Value.int .u8 0).cells n ++ Builtin.zeroCells (Value.int .u8 0).cells (G - n)) := ⟨_, rfl⟩
 have hZs : Z.size = G := by rw [hZ, Array.size_append, Array.size_append, zero_cells, zero_cells]; simp; omega
 rw [← hZ] at hrz
 have HOWN : Hid ((w.alloc (.cells Z 5)).ownsRow w.heap.size 5 1 (.slice (some ⟨w.heap.size, 0, none⟩) 0 G) 0 (B8 [])) := by
  exact ⟨rfl, .inr ⟨w.heap.size, G, _, rfl, Nat.le_refl _, heap_alloc_new w _, Nat.zero_le _, hGm, by rw [hZs, Nat.mul_one], rfl⟩⟩
 have hG63 : (G : Int) ≤ 9223372036854775807 := by unfold maxLen at hGm; omega
 have hGn' : (0 : Int) ≤ (G : Int) := by omega
 clear hold hG hGm hZ hZs
 go_enter Tryd.func66, Tryd.ntmps66
 go_wp2_with (at_builtin; refine Lib.wpList_append_run _ rfl _ _ _ _ rfl _ _ rfl rfl _ _ (hrz _) ?_)
 all_goals (go_ret; exact ⟨_, _, rfl, (unhide HOWN).drew, ((Below.refl w.heap.size w).alloc (Nat.le_refl _) _).drew⟩)
/-- The first k of two lengths, summed. -/
def sum2 (n1 n2 : Nat) : Nat → Nat
 | 0 => 0
 | 1 => n1
 | _ => n1 + n2
set_option maxHeartbeats 2000000 in
set_option maxRecDepth 100000 in
theorem iconcat (s N : Nat) (a1 a2 : Option Addr) (c1 c2 : Nat) (x y : List UInt8) (hN : (x ++ y).length = N) (hx0 : 0 < x.length) (hx : x.length ≤ 65536) (hy : y.length ≤ 65536) (w : World) (hs : s < w.heap.size) (k0 : w.cell? ⟨s, 0, none⟩ = some (.slice a1 x.length c1)) (k1 : w.cell? ⟨s, 1, none⟩ = some (.slice a2 y.length c2)) (hr1 : Row8 w a1 x) (hr2 : Row8 w a2 y) :
  Calls Tryd.prog 56 #[.slice (some ⟨s, 0, none⟩) 2 2] w fun e w' => ∃ g c, e = .returned (.slice (some ⟨g, 0, none⟩) N c) ∧ w'.ownsRow w.heap.size 5 1 (.slice (some ⟨g, 0, none⟩) N c) N (B8 (x ++ y)) ∧ Below w.heap.size w w' := by
 obtain ⟨i0, hi, hz0, hz1, hz2⟩ := info_parts Tryd.infC5
 have HNN := hide hN
 clear hN
 have HR1 := hide hr1
 have HR2 := hide hr2
 obtain ⟨n1, e1⟩ : ∃ n, n = x.length := ⟨_, rfl⟩
 obtain ⟨n2, e2⟩ : ∃ n, n = y.length := ⟨_, rfl⟩
 rw [← e1] at k0 hx0 hx
 rw [← e2] at k1 hy
 have E1 := hide e1
 have E2 := hide e2
 have K0 := hide k0
 have K1 := hide k1
 clear hr1 hr2 e1 e2 k0 k1
 go_enter Tryd.func56, Tryd.ntmps56
 go_wp2_with fail
 go_loopw [3, 11] (fun v i wr => ∃ k : Nat, k ≤ 2 ∧ i = .int .i64 k ∧ v = .int .i64 ((sum2 n1 n2 k : Nat) : Int) ∧ wr = w) (fun _ i _ => 2 - (intOf i).toNat)
 case atStart => exact ⟨0, by omega, rfl, rfl, rfl⟩
 case round =>
  obtain ⟨k, hk, rfl, rfl, rfl⟩ := hrel
  by_cases h0 : k = 0
  ·subst h0
   have q0 := unhide K0
   have s0 : ((sum2 n1 n2 0 : Nat) : Int) = 0 := rfl
   rw [s0]
   have hn : ¬ (n1 : Int) < 0 := by omega
   go_wp2_with fail
   go_roundw
   case rel => exact ⟨1, by omega, by go_num, by show Value.int .i64 _ = Value.int .i64 ((n1 : Nat) : Int); first | rfl | (congr 1; omega), trivial⟩
   case measure => simp [intOf]
  ·by_cases h1 : k = 1
   ·subst h1
    have q1 := unhide K1
    have s1 : ((sum2 n1 n2 1 : Nat) : Int) = (n1 : Int) := rfl
    rw [s1]
    have hn : ¬ (n1 : Int) + (n2 : Int) < 0 := by omega
    go_wp2_with fail
    go_roundw
    case rel => exact ⟨2, by omega, by go_num, by show Value.int .i64 _ = Value.int .i64 ((n1 + n2 : Nat) : Int); first | rfl | (congr 1; omega), trivial⟩
    case measure => simp [intOf]
   ·obtain rfl : k = 2 := by omega
    have s2 : ((sum2 n1 n2 2 : Nat) : Int) = ((n1 + n2 : Nat) : Int) := rfl
    rw [s2]
    have T := igrow (n1 + n2) (by omega) (by omega) wr
    rw [show ((n1 + n2 : Nat) : Int) = (n1 : Int) + (n2 : Int) from by omega] at T
    have HG := hide T
    clear T
    go_wp2_with fail
    refine (unhide HG).mono ?_
    rintro e w2 ⟨g, c, rfl, o2, hb2⟩
    have HO2 := hide o2
    have HB2 := hide hb2
    clear o2 hb2 HG
    go_wp2_with fail
    go_loopw [6, 27] (fun v i w3 => ∃ (k g c n : Nat) (l : List UInt8), k ≤ 2 ∧ i = .int .i64 k ∧ v = .slice (some ⟨g, 0, none⟩) n c ∧ Hid (l.length = n) ∧ n ≤ 131072 ∧ Hid (l = if k = 0 then [] else if k = 1 then x else x ++ y) ∧ Hid (w3.ownsRow wr.heap.size 5 1 (.slice (some ⟨g, 0, none⟩) n c) n (B8 l)) ∧ Hid (Below wr.heap.size wr w3)) (fun _ i _ => 2 - (intOf i).toNat)
    case atStart => exact ⟨0, g, c, 0, [], by omega, rfl, rfl, rfl, by omega, rfl, HO2, HB2⟩
    case round =>
     clear HO2 HB2
     rename World => w3
     obtain ⟨k, g, c, n, l, hk, rfl, rfl, HL, hn, HLE, HO, HB⟩ := hrel
     by_cases h0 : k = 0
     ·subst h0
      have q0 : w3.cell? ⟨s, 0, none⟩ = some (.slice a1 n1 c1) := ((unhide HB).cell (p := ⟨s, 0, none⟩) hs).trans (unhide K0)
      have hz := (unhide HB).size
      have R1 := hide ((unhide HR1).below (unhide HB))
      go_wp2_with (at_builtin; refine append_row8 _ rfl (.tmp 31) (.tmp 32) 22 rfl wr.heap.size 5 i0 Tryd.underlying22 hi hz0 hz1 hz2 g n c (B8 l) rfl (unhide HO) a1 c1 x (by rw [← unhide E1]; rfl) (unhide R1) (by rw [← unhide E1]; omega) hz ?_; intro g4 c4 w4 o4 hg4; rw [← unhide E1] at o4 ⊢; have HO4 := hide o4; have HB4 := hide ((unhide HB).grown hg4 (unhide HB).size (fun j hj => by injection hj with hj; subst hj; exact ((unhide HO).lt _ rfl).1)); clear o4 hg4)
      go_roundw
      case rel => exact ⟨1, g4, c4, n + n1, l ++ x, by omega, by go_num, rfl, by show (l ++ x).length = _; rw [List.length_append, unhide HL, ← unhide E1], by have := unhide HL; rw [unhide HLE] at this; simp at this; omega, by show l ++ x = _; rw [unhide HLE]; simp, by rw [show B8 (l ++ x) = B8 l ++ B8 x from by simp [B8]]; exact HO4, HB4⟩
      case measure => simp [intOf]
     ·by_cases h1 : k = 1
      ·subst h1
       have q1 : w3.cell? ⟨s, 1, none⟩ = some (.slice a2 n2 c2) := ((unhide HB).cell (p := ⟨s, 1, none⟩) hs).trans (unhide K1)
       have hz := (unhide HB).size
       have R2 := hide ((unhide HR2).below (unhide HB))
       go_wp2_with (at_builtin; refine append_row8 _ rfl (.tmp 31) (.tmp 32) 22 rfl wr.heap.size 5 i0 Tryd.underlying22 hi hz0 hz1 hz2 g n c (B8 l) rfl (unhide HO) a2 c2 y (by rw [← unhide E2]; rfl) (unhide R2) (by rw [← unhide E2]; omega) hz ?_; intro g4 c4 w4 o4 hg4; rw [← unhide E2] at o4 ⊢; have HO4 := hide o4; have HB4 := hide ((unhide HB).grown hg4 (unhide HB).size (fun j hj => by injection hj with hj; subst hj; exact ((unhide HO).lt _ rfl).1)); clear o4 hg4)
       go_roundw
       case rel => exact ⟨2, g4, c4, n + n2, l ++ y, by omega, by go_num, rfl, by show (l ++ y).length = _; rw [List.length_append, unhide HL, ← unhide E2], by have := unhide HL; rw [unhide HLE] at this; simp at this; have := unhide E1; omega, by show l ++ y = _; rw [unhide HLE]; simp, by rw [show B8 (l ++ y) = B8 l ++ B8 y from by simp [B8]]; exact HO4, HB4⟩
       case measure => simp [intOf]
      ·obtain rfl : k = 2 := by omega
       have hle : l = x ++ y := by rw [unhide HLE]; simp
       have hn2 : n = N := by rw [← unhide HL, hle]; exact unhide HNN
       rw [hle] at HO
       clear hle HLE HL
       subst hn2
       go_wp2_with fail
       go_ret
       exact ⟨g, c, rfl, unhide HO, unhide HB⟩
set_option maxHeartbeats 1000000 in
theorem iframesum (a1 a2 : Option Addr) (c1 c2 n1 n2 : Nat) (x y : List UInt8) (e1 : x.length = n1) (e2 : y.length = n2) (hx0 : 0 < n1) (hxy : n1 + n2 ≤ 65536) (w : World) (hr1 : Row8 w a1 x) (hr2 : Row8 w a2 y) :
  Calls Tryd.prog 49 #[.slice a1 n1 c1, .slice a2 n2 c2] w fun e w' => e = .returned (.int .i64 (chk (x ++ y))) ∧ Below w.heap.size w w' := by
 obtain ⟨N, hN⟩ : ∃ N, (x ++ y).length = N := ⟨_, rfl⟩
 have hNl : N ≤ 65536 := by rw [← hN, List.length_append]; omega
 have hb0 : Below w.heap.size w (w.alloc (.cells #[.slice a1 n1 c1, .slice a2 n2 c2] 22)) := (Below.refl _ _).alloc (Nat.le_refl _) _
 have HT := hide (iconcat w.heap.size N a1 a2 c1 c2 x y hN (by omega) (by omega) (by omega) (w.alloc (.cells #[.slice a1 n1 c1, .slice a2 n2 c2] 22)) (by simp) (by rw [e1]; exact World.cell?_alloc_mark w _ _ _ 0) (by rw [e2]; exact World.cell?_alloc_mark w _ _ _ 1) (hr1.below hb0) (hr2.below hb0))
 have HB0 := hide hb0
 have HN := hide hN
 clear hb0 hr1 hr2 hxy hN e1 e2
 go_enter Tryd.func49, Tryd.ntmps49
 go_wp2_with fail
 refine (unhide HT).mono ?_
 rintro e w2 ⟨g, c, rfl, o2, hb2⟩
 have HR := hide (rowV_8 (row_at o2))
 have HB := hide ((unhide HB0).trans (hb2.mono (unhide HB0).size))
 clear o2 hb2
 go_wp2_with fail
 have hc := icheck (some ⟨g, 0, none⟩) c (x ++ y) (by rw [unhide HN]; omega) w2 (unhide HR)
 rw [chkA_ok (by rw [unhide HN]; omega), unhide HN] at hc
 refine hc.mono ?_
 rintro e w3 ⟨rfl, rfl⟩
 go_wp2_with fail
 go_ret
 exact ⟨rfl, unhide HB⟩
end Go.Proofs.YtamjljhbnhdgdaaDoor
