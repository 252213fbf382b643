/- Screens: the laws' own helpers: likeness, marks, copies, sizes. -/
import Derived.Test.YtpcdjpfffanlbaaDoorZCellL
import Derived.Test.YtpcdjpfffanlbaaDoorZSpa
import Derived.Test.YtpcdjpfffanlbaaDoorZG27
namespace Go.Proofs.YtpcdjpfffanlbaaDoor
open Go.ChangeShapes Go.WideShapes Go.ChangeAt Go.RowKit
set_option maxHeartbeats 1000000 in
set_option maxRecDepth 100000 in
theorem eqScr (i0 i1 i2 i3 i4 i5 i6 i7 i8 : Int) (t : ByteArray) (a c : Option Addr) (cap cap2 : Nat) (l : List (Int × Int)) (b d : Option Addr) (capb capd : Nat) (m : List ByteArray) (hl : l.length ≤ 1048576) (hm : m.length ≤ 1048576) (w : World)
  (hr : RowV w a (cP l)) (hr2 : RowV w c (cP l)) (hs : RowV w b (cS m)) (hs2 : RowV w d (cS m)) :
  Calls Tryd.prog 7 #[.agg #[.int .i64 i0, .int .i64 i1, .int .i64 i2, .int .i64 i3, .int .i64 i4, .int .i64 i5, .int .i64 i6, .int .i64 i7, .int .i64 i8, .string t, .slice a l.length cap, .slice b m.length capb], .agg #[.int .i64 i0, .int .i64 i1, .int .i64 i2, .int .i64 i3, .int .i64 i4, .int .i64 i5, .int .i64 i6, .int .i64 i7, .int .i64 i8, .string t, .slice c l.length cap2, .slice d m.length capd]] w fun e w' => e = .returned (.bool true) ∧ Below w.heap.size w w' := by
 have HL := hide hl
 have HM := hide hm
 have HR := hide hr
 have HR2 := hide hr2
 have HS := hide hs
 have HS2 := hide hs2
 have ne0 : (i0 != i0) = false := by simp
 have ne1 : (i1 != i1) = false := by simp
 have ne2 : (i2 != i2) = false := by simp
 have ne3 : (i3 != i3) = false := by simp
 have ne4 : (i4 != i4) = false := by simp
 have ne5 : (i5 != i5) = false := by simp
 have ne6 : (i6 != i6) = false := by simp
 have ne7 : (i7 != i7) = false := by simp
 have ne8 : (i8 != i8) = false := by simp
 have net : (t.toList != t.toList) = false := by simp
 clear hl hm hr hr2 hs hs2
 have hb0 := Go.Joins.below_alloc2 w (Obj.cells #[.int .i64 i0, .int .i64 i1, .int .i64 i2, .int .i64 i3, .int .i64 i4, .int .i64 i5, .int .i64 i6, .int .i64 i7, .int .i64 i8, .string t, .slice a l.length cap, .slice b m.length capb] 26) (Obj.cells #[.int .i64 i0, .int .i64 i1, .int .i64 i2, .int .i64 i3, .int .i64 i4, .int .i64 i5, .int .i64 i6, .int .i64 i7, .int .i64 i8, .string t, .slice c l.length cap2, .slice d m.length capd] 26)
 have HB0 := hide hb0
 clear hb0
 go_enter Tryd.func7, Tryd.ntmps7
 go_wp2_with fail
 refine (sameCell a c cap cap2 l (unhide HL) _ ((unhide HR).below (unhide HB0)) ((unhide HR2).below (unhide HB0))).mono ?_
 rintro e w1 ⟨rfl, hb⟩
 obtain ⟨hc, hf⟩ := bcell hb
 have HB := hide ((unhide HB0).trans (hb.mono (unhide HB0).size))
 clear hb hf
 go_wp2_with fail
 refine (sameString b d capb capd m (unhide HM) _ ((unhide HS).below (unhide HB)) ((unhide HS2).below (unhide HB))).mono ?_
 rintro e w2 ⟨rfl, hb⟩
 have HB2 := hide ((unhide HB).trans (hb.mono (unhide HB).size))
 clear hb hc
 go_wp2_with fail
 go_ret
 exact ⟨rfl, unhide HB2⟩
set_option maxHeartbeats 1000000 in
set_option maxRecDepth 100000 in
theorem markScr (i0 i1 i2 i3 i4 i5 i6 i7 i8 : Int) (t : ByteArray) (vc vh : Value) (n m lo hi : Nat) (q : Int) (xs ys : List Value) (hq : q = ((1 + n * 2 + m : Nat) : Int)) (hn : n ≤ 500000) (hm : m ≤ 500000) (w : World) (hc : HeldZ 2 w lo hi 53 vc n xs) (hh : HeldZ 1 w lo hi 9 vh m ys) :
  Calls Tryd.prog 10 #[.agg #[.int .i64 i0, .int .i64 i1, .int .i64 i2, .int .i64 i3, .int .i64 i4, .int .i64 i5, .int .i64 i6, .int .i64 i7, .int .i64 i8, .string t, vc, vh], .int .i64 1] w fun e w' => e = .returned (.int .i64 q) ∧ HeldZ 2 w' lo hi 53 vc n (onesCell 1 n) ∧ HeldZ 1 w' lo hi 9 vh m ((List.range m).map fun j => .string (mtS (1 + n * 2 + j))) ∧ Spared w w' lo hi := by
 have HC := hide hc
 have HH := hide hh
 have HQ := hide hq
 have hb0 := (Below.refl w.heap.size w).alloc (Nat.le_refl _) (Obj.cells #[.int .i64 i0, .int .i64 i1, .int .i64 i2, .int .i64 i3, .int .i64 i4, .int .i64 i5, .int .i64 i6, .int .i64 i7, .int .i64 i8, .string t, vc, vh] 26)
 have HB0 := hide hb0
 clear hb0 hc hh hq
 go_enter Tryd.func10, Tryd.ntmps10
 go_wp2_with fail
 refine (markCell vc n lo hi 1 xs (by omega) (by decide) _ ((unhide HC).below (unhide HB0) (unhide HC).le)).mono ?_
 rintro e w1 ⟨rfl, hc1, hg1⟩
 have H0 := (unhide HH).below (unhide HB0) (unhide HH).le
 have C0 := (unhide HC).below (unhide HB0) (unhide HC).le
 have HC1 := hide hc1
 have HH1 := hide (H0.kept2 hg1 (own_apart H0.1 C0.1 (by decide)))
 have hb1 : w.heap.size < w1.heap.size := by have := hg1.size; simp at this; omega
 have hk1 : ∀ o, w1.cell? ⟨w.heap.size, o, none⟩ = (w.alloc (Obj.cells #[.int .i64 i0, .int .i64 i1, .int .i64 i2, .int .i64 i3, .int .i64 i4, .int .i64 i5, .int .i64 i6, .int .i64 i7, .int .i64 i8, .string t, vc, vh] 26)).cell? ⟨w.heap.size, o, none⟩ := fun o => World.cell?_of_block (hg1.block w.heap.size (by simp) (fun e => by have := (C0.blk _ e.symm).2; have := (unhide HC).le; omega))
 have S1 := hide ((Spared.of_below (unhide HB0) lo hi).trans (Spared.of_grown hg1 (fun k hk => C0.blk k hk)))
 obtain ⟨p, hp⟩ : ∃ p : Nat, p = 1 + n * 2 := ⟨_, rfl⟩
 rw [← hp]
 have HP := hide hp
 have hp1 : p ≤ 2000000 := by omega
 have hp0 : 0 < p := by omega
 have hc9 := hk1 11
 clear hc1 hg1 H0 C0 hk1 hp
 simp only [World.cell?_alloc_mark] at hc9
 go_wp2_with fail
 refine (markString vh m lo hi p ys (by omega) hp0 hp1 _ (heldZ_1 (unhide HH1))).mono ?_
 rintro e w2 ⟨rfl, hh2, hg2⟩
 have HC2 := hide ((unhide HC1).kept2 hg2 (own_apart (unhide HC1).1 (unhide HH1).1 (by decide)))
 have S2 := hide ((unhide S1).trans (Spared.of_grown hg2 (fun k hk => (unhide HH1).blk k hk)))
 have HH2 := hide hh2
 clear hh2 hg2 hc9
 go_wp2_with fail
 go_ret
 refine ⟨ret_int ?_, unhide HC2, ?_, unhide S2⟩
 ·have h1 := unhide HQ; have h2 := unhide HP; omega
 ·rw [← unhide HP]; exact held_Z (unhide HH2)
set_option maxHeartbeats 1000000 in
set_option maxRecDepth 100000 in
theorem heldScr (i0 i1 i2 i3 i4 i5 i6 i7 i8 : Int) (t : ByteArray) (vc vh : Value) (n m lo hi : Nat) (q : Int) (hq : q = ((1 + n * 2 + m : Nat) : Int)) (hn : n ≤ 500000) (hm : m ≤ 500000) (w : World) (hc : HeldZ 2 w lo hi 53 vc n (onesCell 1 n)) (hh : HeldZ 1 w lo hi 9 vh m ((List.range m).map fun j => .string (mtS (1 + n * 2 + j)))) :
  Calls Tryd.prog 11 #[.agg #[.int .i64 i0, .int .i64 i1, .int .i64 i2, .int .i64 i3, .int .i64 i4, .int .i64 i5, .int .i64 i6, .int .i64 i7, .int .i64 i8, .string t, vc, vh], .int .i64 1] w fun e w' => e = .returned (.int .i64 q) ∧ Below w.heap.size w w' := by
 have HC := hide hc
 have HH := hide hh
 have HQ := hide hq
 have hb0 := (Below.refl w.heap.size w).alloc (Nat.le_refl _) (Obj.cells #[.int .i64 i0, .int .i64 i1, .int .i64 i2, .int .i64 i3, .int .i64 i4, .int .i64 i5, .int .i64 i6, .int .i64 i7, .int .i64 i8, .string t, vc, vh] 26)
 have HB0 := hide hb0
 clear hb0 hc hh hq
 obtain ⟨p, hp⟩ : ∃ p : Nat, p = 1 + n * 2 := ⟨_, rfl⟩
 have HP := hide hp
 have hp1 : p ≤ 2000000 := by omega
 have hp0 : 0 < p := by omega
 clear hp
 go_enter Tryd.func11, Tryd.ntmps11
 go_wp2_with fail
 refine (heldCell vc n lo hi 1 (by omega) (by decide) _ ((unhide HC).below (unhide HB0) (unhide HC).le)).mono ?_
 rintro e w1 ⟨rfl, hb⟩
 rw [← unhide HP]
 obtain ⟨hc, hf⟩ := bcell hb
 have HB := hide ((unhide HB0).trans (hb.mono (unhide HB0).size))
 clear hb hf
 have hpp : ¬ (p : Int) < 0 := by omega
 go_wp2_with fail
 have hh1 := (unhide HH).below (unhide HB) (unhide HH).le
 rw [← unhide HP] at hh1
 refine (heldString vh m lo hi p (by omega) hp0 hp1 _ (heldZ_1 hh1)).mono ?_
 rintro e w2 ⟨rfl, hb⟩
 have HB2 := hide ((unhide HB).trans (hb.mono (unhide HB).size))
 have hpm : ¬ ((p + m : Nat) : Int) < 0 := by omega
 clear hb hc hh1
 go_wp2_with fail
 go_ret
 exact ⟨ret_int (by have h1 := unhide HQ; have h2 := unhide HP; omega), unhide HB2⟩
end Go.Proofs.YtpcdjpfffanlbaaDoor
