/- Screens: the laws' own helpers: likeness, marks, copies, sizes. -/
import Derived.Test.YteeklocaaidimaaCellL
import Derived.Test.YteeklocaaidimaaSpa
import Derived.Test.YteeklocaaidimaaHeldS
import Derived.Test.YteeklocaaidimaaSizeS
namespace Go.Proofs.Yteeklocaaidimaa
open Go.ChangeShapes Go.WideShapes Go.ChangeAt Go.RowKit
set_option maxHeartbeats 1000000 in
set_option maxRecDepth 100000 in
theorem eqScr (i0 i1 i2 i3 i4 i5 i6 i7 i8 : Int) (t : ByteArray) (a c : Option Addr) (cap cap2 : Nat) (l : List (Int × Int)) (b d : Option Addr) (capb capd : Nat) (m : List ByteArray) (hl : l.length ≤ 1048576) (hm : m.length ≤ 1048576) (w : World)
    (hr : RowV w a (cP l)) (hr2 : RowV w c (cP l)) (hs : RowV w b (cS m)) (hs2 : RowV w d (cS m)) :
    Calls Try.prog 8 #[.agg #[.int .i64 i0, .int .i64 i1, .int .i64 i2, .int .i64 i3, .int .i64 i4, .int .i64 i5, .int .i64 i6, .int .i64 i7, .int .i64 i8, .string t, .slice a l.length cap, .slice b m.length capb], .agg #[.int .i64 i0, .int .i64 i1, .int .i64 i2, .int .i64 i3, .int .i64 i4, .int .i64 i5, .int .i64 i6, .int .i64 i7, .int .i64 i8, .string t, .slice c l.length cap2, .slice d m.length capd]] w fun e w' => e = .returned (.bool true) ∧ Below w.heap.size w w' := by
  have HL := hide hl
  have HM := hide hm
  have HR := hide hr
  have HR2 := hide hr2
  have HS := hide hs
  have HS2 := hide hs2
  have ne0 : (i0 != i0) = false := by simp
  have ne1 : (i1 != i1) = false := by simp
  have ne2 : (i2 != i2) = false := by simp
  have ne3 : (i3 != i3) = false := by simp
  have ne4 : (i4 != i4) = false := by simp
  have ne5 : (i5 != i5) = false := by simp
  have ne6 : (i6 != i6) = false := by simp
  have ne7 : (i7 != i7) = false := by simp
  have ne8 : (i8 != i8) = false := by simp
  have net : (t.toList != t.toList) = false := by simp
  clear hl hm hr hr2 hs hs2
  have hb0 := Go.Joins.below_alloc2 w (Obj.cells #[.int .i64 i0, .int .i64 i1, .int .i64 i2, .int .i64 i3, .int .i64 i4, .int .i64 i5, .int .i64 i6, .int .i64 i7, .int .i64 i8, .string t, .slice a l.length cap, .slice b m.length capb] 29) (Obj.cells #[.int .i64 i0, .int .i64 i1, .int .i64 i2, .int .i64 i3, .int .i64 i4, .int .i64 i5, .int .i64 i6, .int .i64 i7, .int .i64 i8, .string t, .slice c l.length cap2, .slice d m.length capd] 29)
  have HB0 := hide hb0
  clear hb0
  go_enter Try.func8, Try.ntmps8
  go_wp2_with fail
  refine (sameCell a c cap cap2 l (unhide HL) _ ((unhide HR).below (unhide HB0)) ((unhide HR2).below (unhide HB0))).mono ?_
  rintro e w1 ⟨rfl, hb⟩
  obtain ⟨hc, hf⟩ := bcell hb
  have HB := hide ((unhide HB0).trans (hb.mono (unhide HB0).size))
  clear hb hf
  go_wp2_with fail
  refine (sameString b d capb capd m (unhide HM) _ ((unhide HS).below (unhide HB)) ((unhide HS2).below (unhide HB))).mono ?_
  rintro e w2 ⟨rfl, hb⟩
  have HB2 := hide ((unhide HB).trans (hb.mono (unhide HB).size))
  clear hb hc
  go_wp2_with fail
  go_ret
  exact ⟨rfl, unhide HB2⟩
set_option maxHeartbeats 1000000 in
set_option maxRecDepth 100000 in
theorem markScr (i0 i1 i2 i3 i4 i5 i6 i7 i8 : Int) (t : ByteArray) (vc vh : Value) (n m lo hi : Nat) (q : Int) (xs ys : List Value) (hq : q = ((1 + n * 2 + m : Nat) : Int)) (hn : n ≤ 500000) (hm : m ≤ 500000) (w : World) (hc : HeldZ 2 w lo hi 51 vc n xs) (hh : HeldZ 1 w lo hi 9 vh m ys) :
    Calls Try.prog 9 #[.agg #[.int .i64 i0, .int .i64 i1, .int .i64 i2, .int .i64 i3, .int .i64 i4, .int .i64 i5, .int .i64 i6, .int .i64 i7, .int .i64 i8, .string t, vc, vh], .int .i64 1] w fun e w' => e = .returned (.int .i64 q) ∧ HeldZ 2 w' lo hi 51 vc n (onesCell 1 n) ∧ HeldZ 1 w' lo hi 9 vh m ((List.range m).map fun j => .string (mtS (1 + n * 2 + j))) ∧ Spared w w' lo hi := by
  have HC := hide hc
  have HH := hide hh
  have HQ := hide hq
  have hb0 := (Below.refl w.heap.size w).alloc (Nat.le_refl _) (Obj.cells #[.int .i64 i0, .int .i64 i1, .int .i64 i2, .int .i64 i3, .int .i64 i4, .int .i64 i5, .int .i64 i6, .int .i64 i7, .int .i64 i8, .string t, vc, vh] 29)
  have HB0 := hide hb0
  clear hb0 hc hh hq
  go_enter Try.func9, Try.ntmps9
  go_wp2_with fail
  refine (markCell vc n lo hi 1 xs (by omega) (by decide) _ ((unhide HC).below (unhide HB0) (unhide HC).le)).mono ?_
  rintro e w1 ⟨rfl, hc1, hg1⟩
  have H0 := (unhide HH).below (unhide HB0) (unhide HH).le
  have C0 := (unhide HC).below (unhide HB0) (unhide HC).le
  have HC1 := hide hc1
  have HH1 := hide (H0.kept2 hg1 (own_apart H0.1 C0.1 (by decide)))
  have hb1 : w.heap.size < w1.heap.size := by have := hg1.size; simp at this; omega
  have hk1 : ∀ o, w1.cell? ⟨w.heap.size, o, none⟩ = (w.alloc (Obj.cells #[.int .i64 i0, .int .i64 i1, .int .i64 i2, .int .i64 i3, .int .i64 i4, .int .i64 i5, .int .i64 i6, .int .i64 i7, .int .i64 i8, .string t, vc, vh] 29)).cell? ⟨w.heap.size, o, none⟩ := fun o => World.cell?_of_block (hg1.block w.heap.size (by simp) (fun e => by have := (C0.blk _ e.symm).2; have := (unhide HC).le; omega))
  have S1 := hide ((Spared.of_below (unhide HB0) lo hi).trans (Spared.of_grown hg1 (fun k hk => C0.blk k hk)))
  obtain ⟨p, hp⟩ : ∃ p : Nat, p = 1 + n * 2 := ⟨_, rfl⟩
  rw [← hp]
  have HP := hide hp
  have hp1 : p ≤ 2000000 := by omega
  have hp0 : 0 < p := by omega
  have hc9 := hk1 11
  clear hc1 hg1 H0 C0 hk1 hp
  simp only [World.cell?_alloc_mark] at hc9
  go_wp2_with fail
  refine (markString vh m lo hi p ys (by omega) hp0 hp1 _ (heldZ_1 (unhide HH1))).mono ?_
  rintro e w2 ⟨rfl, hh2, hg2⟩
  have HC2 := hide ((unhide HC1).kept2 hg2 (own_apart (unhide HC1).1 (unhide HH1).1 (by decide)))
  have S2 := hide ((unhide S1).trans (Spared.of_grown hg2 (fun k hk => (unhide HH1).blk k hk)))
  have HH2 := hide hh2
  clear hh2 hg2 hc9
  go_wp2_with fail
  go_ret
  refine ⟨ret_int ?_, unhide HC2, ?_, unhide S2⟩
  · have h1 := unhide HQ; have h2 := unhide HP; omega
  · rw [← unhide HP]; exact held_Z (unhide HH2)
set_option maxHeartbeats 1000000 in
set_option maxRecDepth 100000 in
theorem heldScr (i0 i1 i2 i3 i4 i5 i6 i7 i8 : Int) (t : ByteArray) (vc vh : Value) (n m lo hi : Nat) (q : Int) (hq : q = ((1 + n * 2 + m : Nat) : Int)) (hn : n ≤ 500000) (hm : m ≤ 500000) (w : World) (hc : HeldZ 2 w lo hi 51 vc n (onesCell 1 n)) (hh : HeldZ 1 w lo hi 9 vh m ((List.range m).map fun j => .string (mtS (1 + n * 2 + j)))) :
    Calls Try.prog 10 #[.agg #[.int .i64 i0, .int .i64 i1, .int .i64 i2, .int .i64 i3, .int .i64 i4, .int .i64 i5, .int .i64 i6, .int .i64 i7, .int .i64 i8, .string t, vc, vh], .int .i64 1] w fun e w' => e = .returned (.int .i64 q) ∧ Below w.heap.size w w' := by
  have HC := hide hc
  have HH := hide hh
  have HQ := hide hq
  have hb0 := (Below.refl w.heap.size w).alloc (Nat.le_refl _) (Obj.cells #[.int .i64 i0, .int .i64 i1, .int .i64 i2, .int .i64 i3, .int .i64 i4, .int .i64 i5, .int .i64 i6, .int .i64 i7, .int .i64 i8, .string t, vc, vh] 29)
  have HB0 := hide hb0
  clear hb0 hc hh hq
  obtain ⟨p, hp⟩ : ∃ p : Nat, p = 1 + n * 2 := ⟨_, rfl⟩
  have HP := hide hp
  have hp1 : p ≤ 2000000 := by omega
  have hp0 : 0 < p := by omega
  clear hp
  go_enter Try.func10, Try.ntmps10
  go_wp2_with fail
  refine (heldCell vc n lo hi 1 (by omega) (by decide) _ ((unhide HC).below (unhide HB0) (unhide HC).le)).mono ?_
  rintro e w1 ⟨rfl, hb⟩
  rw [← unhide HP]
  obtain ⟨hc, hf⟩ := bcell hb
  have HB := hide ((unhide HB0).trans (hb.mono (unhide HB0).size))
  clear hb hf
  have hpp : ¬ (p : Int) < 0 := by omega
  go_wp2_with fail
  have hh1 := (unhide HH).below (unhide HB) (unhide HH).le
  rw [← unhide HP] at hh1
  refine (heldString vh m lo hi p (by omega) hp0 hp1 _ (heldZ_1 hh1)).mono ?_
  rintro e w2 ⟨rfl, hb⟩
  have HB2 := hide ((unhide HB).trans (hb.mono (unhide HB).size))
  have hpm : ¬ ((p + m : Nat) : Int) < 0 := by omega
  clear hb hc hh1
  go_wp2_with fail
  go_ret
  exact ⟨ret_int (by have h1 := unhide HQ; have h2 := unhide HP; omega), unhide HB2⟩
set_option maxHeartbeats 1000000 in
set_option maxRecDepth 100000 in
theorem szScr (i0 i1 i2 i3 i4 i5 i6 i7 i8 : Int) (t : ByteArray) (a : Option Addr) (n cap : Nat) (b : Option Addr) (capb : Nat) (m : List ByteArray) (ht : t.size ≤ maxLen) (hn : n ≤ maxLen) (hm : m.length ≤ maxLen) (hsz : ∀ k (h : k < m.length), m[k].size ≤ maxLen) (w : World) (hr : RowV w b (cS m)) :
    Calls Try.prog 4 #[.agg #[.int .i64 i0, .int .i64 i1, .int .i64 i2, .int .i64 i3, .int .i64 i4, .int .i64 i5, .int .i64 i6, .int .i64 i7, .int .i64 i8, .string t, .slice a n cap, .slice b m.length capb], .int .i64 1048576] w fun e w' => ∃ x : Int, e = .returned (.int .i64 x) ∧ Below w.heap.size w w' ∧ (x = -1 ∨ (0 ≤ x ∧ t.size ≤ 1048576 ∧ n ≤ 1048576 ∧ m.length ≤ 1048576 ∧ ∀ k (h : k < m.length), m[k].size ≤ 1048576)) := by
  have ht2 : (t.size : Int) ≤ 9223372036854775807 := by unfold maxLen at ht; omega
  have HN := hide hn
  have HM := hide hm
  have HSZ := hide hsz
  have HR := hide hr
  have hb0 := (Below.refl w.heap.size w).alloc (Nat.le_refl _) (Obj.cells #[.int .i64 i0, .int .i64 i1, .int .i64 i2, .int .i64 i3, .int .i64 i4, .int .i64 i5, .int .i64 i6, .int .i64 i7, .int .i64 i8, .string t, .slice a n cap, .slice b m.length capb] 25)
  have HB0 := hide hb0
  clear hb0 hn hm hsz hr ht
  by_cases big : 1048576 < t.size
  · have b1 : (1048576 : Int) - (t.size : Int) < 0 := by omega
    go_enter Try.func4, Try.ntmps4
    go_wp2_with fail
    go_ret
    exact ⟨_, rfl, unhide HB0, .inl rfl⟩
  obtain ⟨y, hy⟩ : ∃ y : Nat, y = 1048576 - t.size := ⟨_, rfl⟩
  have b1 : (1048576 : Int) - (t.size : Int) = (y : Int) := by omega
  have b2 : ¬ (y : Int) < 0 := by omega
  have hy1 : y ≤ 1048576 := by omega
  have HT : Hid (t.size ≤ 1048576) := by show _ ≤ _; omega
  clear hy big
  go_enter Try.func4, Try.ntmps4
  go_wp2_with fail
  refine (szCell a cap n y hy1 (unhide HN) _).mono ?_
  rintro e w1 ⟨x, rfl, rfl, hx⟩
  rcases hx with rfl | ⟨z, rfl, hz1, hz2⟩
  · go_wp2_with fail
    go_ret
    exact ⟨_, rfl, unhide HB0, .inl rfl⟩
  have hz3 : ¬ (z : Int) < 0 := by omega
  go_wp2_with fail
  refine (sizeStr b capb m z (by omega) (unhide HM) (unhide HSZ) _ ((unhide HR).below (unhide HB0))).mono ?_
  rintro e w2 ⟨x, rfl, rfl, hx⟩
  rcases hx with rfl | ⟨hx0, hx1, hx2⟩
  · go_wp2_with fail
    go_ret
    exact ⟨_, rfl, unhide HB0, .inl rfl⟩
  have hx3 : ¬ x < 0 := by omega
  have HX2 := hide hx2
  clear hx2
  go_wp2_with fail
  go_ret
  exact ⟨_, rfl, unhide HB0, .inr ⟨hx0, unhide HT, hz2, hx1, unhide HX2⟩⟩
set_option maxHeartbeats 1000000 in
set_option maxRecDepth 100000 in
theorem toScr (i0 i1 i2 i3 i4 i5 i6 i7 i8 : Int) (t : ByteArray) (a : Option Addr) (cap : Nat) (l : List (Int × Int)) (b : Option Addr) (capb : Nat) (m : List ByteArray) (hl : l.length ≤ 1048576) (hm : m.length ≤ 1048576) (w : World) (hr : RowV w a (cP l)) (hs : RowV w b (cS m)) :
    Calls Try.prog 6 #[.agg #[.int .i64 i0, .int .i64 i1, .int .i64 i2, .int .i64 i3, .int .i64 i4, .int .i64 i5, .int .i64 i6, .int .i64 i7, .int .i64 i8, .string t, .slice a l.length cap, .slice b m.length capb]] w fun e w' => ∃ g h, e = .returned (.agg #[.int .i64 i0, .int .i64 i1, .int .i64 i2, .int .i64 i3, .int .i64 i4, .int .i64 i5, .int .i64 i6, .int .i64 i7, .int .i64 i8, .string t, .slice (some ⟨g, 0, none⟩) l.length l.length, .slice (some ⟨h, 0, none⟩) m.length m.length]) ∧
      w'.ownsRow w.heap.size 51 2 (.slice (some ⟨g, 0, none⟩) l.length l.length) l.length (cP l) ∧ w'.ownsRow w.heap.size 9 1 (.slice (some ⟨h, 0, none⟩) m.length m.length) m.length (cS m) ∧ Below w.heap.size w w' := by
  have HL := hide hl
  have HM := hide hm
  have HR := hide hr
  have HS := hide hs
  clear hl hr hm hs
  go_enter Try.func6, Try.ntmps6
  go_wp2_with fail
  have hb0 := Go.Joins.below_alloc3 w (Obj.cells #[.int .i64 i0, .int .i64 i1, .int .i64 i2, .int .i64 i3, .int .i64 i4, .int .i64 i5, .int .i64 i6, .int .i64 i7, .int .i64 i8, .string t, .slice a l.length cap, .slice b m.length capb] 25) (Obj.cells #[.int .i64 0, .int .i64 0, .int .i64 0, .int .i64 0, .int .i64 0, .int .i64 0, .int .i64 0, .int .i64 0, .int .i64 0, .string ⟨#[]⟩, .slice none 0 0, .slice none 0 0] 29) (Obj.cells #[.int .i64 i0, .int .i64 i1, .int .i64 i2, .int .i64 i3, .int .i64 i4, .int .i64 i5, .int .i64 i6, .int .i64 i7, .int .i64 i8, .string t, .slice none 0 0, .slice none 0 0] 29)
  have HB0 := hide hb0
  clear hb0
  refine (copyCell a cap l (unhide HL) _ ((unhide HR).below (unhide HB0))).mono ?_
  rintro e w1 ⟨rfl, own, hb⟩
  obtain ⟨hc, hf⟩ := bcell hb
  have HB := hide (((unhide HB0).trans (hb.mono (unhide HB0).size)).setCell (p := ⟨w.heap.size + 1 + 1, 10, none⟩) (by simp; omega) (.slice (some ⟨w.heap.size + 1 + 1 + 1, 0, none⟩) l.length l.length))
  have hz : w.heap.size + 3 ≤ w1.heap.size := by have := hb.size; simp at this; omega
  have HO := hide (Go.Joins.ownsRow_le (base' := w.heap.size + 3) (ownsRow_setCell_below (a := ⟨w.heap.size + 1 + 1, 10, none⟩) own (by simp) (.slice (some ⟨w.heap.size + 1 + 1 + 1, 0, none⟩) l.length l.length)) (by simp))
  have p0 : ∀ o, w1.cell? ⟨w.heap.size, o, none⟩ = (#[.int .i64 i0, .int .i64 i1, .int .i64 i2, .int .i64 i3, .int .i64 i4, .int .i64 i5, .int .i64 i6, .int .i64 i7, .int .i64 i8, .string t, .slice a l.length cap, .slice b m.length capb] : Array Value)[o]? := fun o => by
    rw [hc _ _ (by simp; omega), World.cell?_alloc_past _ _ _ (by simp; omega), World.cell?_alloc_past _ _ _ (by simp)]; exact World.cell?_alloc_mark w _ _ _ o
  have p1 : ∀ o, w1.cell? ⟨w.heap.size + 1, o, none⟩ = (#[.int .i64 0, .int .i64 0, .int .i64 0, .int .i64 0, .int .i64 0, .int .i64 0, .int .i64 0, .int .i64 0, .int .i64 0, .string ⟨#[]⟩, .slice none 0 0, .slice none 0 0] : Array Value)[o]? := fun o => by
    rw [hc _ _ (by simp), World.cell?_alloc_past _ _ _ (by simp), show (⟨w.heap.size + 1, o, none⟩ : Addr) = ⟨(w.alloc (Obj.cells #[.int .i64 i0, .int .i64 i1, .int .i64 i2, .int .i64 i3, .int .i64 i4, .int .i64 i5, .int .i64 i6, .int .i64 i7, .int .i64 i8, .string t, .slice a l.length cap, .slice b m.length capb] 25)).heap.size, o, none⟩ from by simp]; exact World.cell?_alloc_mark _ _ _ _ o
  have p2 : ∀ o, w1.cell? ⟨w.heap.size + 1 + 1, o, none⟩ = (#[.int .i64 i0, .int .i64 i1, .int .i64 i2, .int .i64 i3, .int .i64 i4, .int .i64 i5, .int .i64 i6, .int .i64 i7, .int .i64 i8, .string t, .slice none 0 0, .slice none 0 0] : Array Value)[o]? := fun o => by
    rw [hc _ _ (by simp), show (⟨w.heap.size + 1 + 1, o, none⟩ : Addr) = ⟨((w.alloc (Obj.cells #[.int .i64 i0, .int .i64 i1, .int .i64 i2, .int .i64 i3, .int .i64 i4, .int .i64 i5, .int .i64 i6, .int .i64 i7, .int .i64 i8, .string t, .slice a l.length cap, .slice b m.length capb] 25)).alloc (Obj.cells #[.int .i64 0, .int .i64 0, .int .i64 0, .int .i64 0, .int .i64 0, .int .i64 0, .int .i64 0, .int .i64 0, .int .i64 0, .string ⟨#[]⟩, .slice none 0 0, .slice none 0 0] 29)).heap.size, o, none⟩ from by simp]; exact World.cell?_alloc_mark _ _ _ _ o
  have q0 : ∀ o, w1.frozen? ⟨w.heap.size, o, none⟩ = false := fun o => by rw [hf _ _ (by simp; omega)]; simp [go_sem]
  have q1 : ∀ o, w1.frozen? ⟨w.heap.size + 1, o, none⟩ = false := fun o => by rw [hf _ _ (by simp)]; simp [go_sem]
  have q2 : ∀ o, w1.frozen? ⟨w.heap.size + 1 + 1, o, none⟩ = false := fun o => by rw [hf _ _ (by simp)]; simp [go_sem]
  clear hb own hc hf
  go_wp2_with fail
  obtain ⟨W1, hW1⟩ : ∃ W1, W1 = w1.setCell ⟨w.heap.size + 1 + 1, 10, none⟩ (.slice (some ⟨w.heap.size + 1 + 1 + 1, 0, none⟩) l.length l.length) := ⟨_, rfl⟩
  rw [← hW1]
  rw [← hW1] at HB HO
  have hzW : w.heap.size + 3 ≤ W1.heap.size := by rw [hW1]; simpa using hz
  have s0 : ∀ o, W1.cell? ⟨w.heap.size, o, none⟩ = (#[.int .i64 i0, .int .i64 i1, .int .i64 i2, .int .i64 i3, .int .i64 i4, .int .i64 i5, .int .i64 i6, .int .i64 i7, .int .i64 i8, .string t, .slice a l.length cap, .slice b m.length capb] : Array Value)[o]? := fun o => by rw [hW1, World.cell?_setCell_other _ _ _ _ (by simp)]; exact p0 o
  have s1 : ∀ o, W1.cell? ⟨w.heap.size + 1, o, none⟩ = (#[.int .i64 0, .int .i64 0, .int .i64 0, .int .i64 0, .int .i64 0, .int .i64 0, .int .i64 0, .int .i64 0, .int .i64 0, .string ⟨#[]⟩, .slice none 0 0, .slice none 0 0] : Array Value)[o]? := fun o => by rw [hW1, World.cell?_setCell_other _ _ _ _ (by simp)]; exact p1 o
  have s2 : ∀ o, W1.cell? ⟨w.heap.size + 1 + 1, o, none⟩ = (#[.int .i64 i0, .int .i64 i1, .int .i64 i2, .int .i64 i3, .int .i64 i4, .int .i64 i5, .int .i64 i6, .int .i64 i7, .int .i64 i8, .string t, .slice (some ⟨w.heap.size + 1 + 1 + 1, 0, none⟩) l.length l.length, .slice none 0 0] : Array Value)[o]? := fun o => by
    rw [hW1]
    by_cases ho : o = 10
    · subst ho; exact World.cell?_setCell_same _ _ _ (p2 10)
    · rw [World.cell?_setCell_other _ _ _ _ (by simp), p2 o]
      match o, ho with
      | 0, _ => rfl
      | 1, _ => rfl
      | 2, _ => rfl
      | 3, _ => rfl
      | 4, _ => rfl
      | 5, _ => rfl
      | 6, _ => rfl
      | 7, _ => rfl
      | 8, _ => rfl
      | 9, _ => rfl
      | 11, _ => rfl
      | n + 12, _ => simp
  have g0 : ∀ o, W1.frozen? ⟨w.heap.size, o, none⟩ = false := fun o => by rw [hW1, World.frozen?_setCell]; exact q0 o
  have g1 : ∀ o, W1.frozen? ⟨w.heap.size + 1, o, none⟩ = false := fun o => by rw [hW1, World.frozen?_setCell]; exact q1 o
  have g2 : ∀ o, W1.frozen? ⟨w.heap.size + 1 + 1, o, none⟩ = false := fun o => by rw [hW1, World.frozen?_setCell]; exact q2 o
  clear p0 p1 p2 q0 q1 q2 hz hW1
  refine (copyString b capb m (unhide HM) _ ((unhide HS).below (unhide HB))).mono ?_
  rintro e w2 ⟨rfl, own2, hb2⟩
  obtain ⟨hc2, hf2⟩ := bcell hb2
  have t0 : ∀ o, w2.cell? ⟨w.heap.size, o, none⟩ = (#[.int .i64 i0, .int .i64 i1, .int .i64 i2, .int .i64 i3, .int .i64 i4, .int .i64 i5, .int .i64 i6, .int .i64 i7, .int .i64 i8, .string t, .slice a l.length cap, .slice b m.length capb] : Array Value)[o]? := fun o => by rw [hc2 _ _ (by omega)]; exact s0 o
  have t1 : ∀ o, w2.cell? ⟨w.heap.size + 1, o, none⟩ = (#[.int .i64 0, .int .i64 0, .int .i64 0, .int .i64 0, .int .i64 0, .int .i64 0, .int .i64 0, .int .i64 0, .int .i64 0, .string ⟨#[]⟩, .slice none 0 0, .slice none 0 0] : Array Value)[o]? := fun o => by rw [hc2 _ _ (by omega)]; exact s1 o
  have t2 : ∀ o, w2.cell? ⟨w.heap.size + 1 + 1, o, none⟩ = (#[.int .i64 i0, .int .i64 i1, .int .i64 i2, .int .i64 i3, .int .i64 i4, .int .i64 i5, .int .i64 i6, .int .i64 i7, .int .i64 i8, .string t, .slice (some ⟨w.heap.size + 1 + 1 + 1, 0, none⟩) l.length l.length, .slice none 0 0] : Array Value)[o]? := fun o => by rw [hc2 _ _ (by omega)]; exact s2 o
  have u0 : ∀ o, w2.frozen? ⟨w.heap.size, o, none⟩ = false := fun o => by rw [hf2 _ _ (by omega)]; exact g0 o
  have u1 : ∀ o, w2.frozen? ⟨w.heap.size + 1, o, none⟩ = false := fun o => by rw [hf2 _ _ (by omega)]; exact g1 o
  have u2 : ∀ o, w2.frozen? ⟨w.heap.size + 1 + 1, o, none⟩ = false := fun o => by rw [hf2 _ _ (by omega)]; exact g2 o
  have HB2 := hide ((unhide HB).trans (hb2.mono (unhide HB).size))
  have HO2 := hide ((heldZ_of (unhide HO)).below hb2 (Nat.le_refl _)).own
  have HP2 := hide own2
  have HZ2 : Hid (w.heap.size + 3 ≤ w2.heap.size) := Nat.le_trans hzW hb2.size
  have HZW := hide hzW
  clear s0 s1 s2 g0 g1 g2 hc2 hf2 hb2 own2 hzW
  go_wp2_with fail
  refine bodyPost_ret (v := .agg #[.int .i64 i0, .int .i64 i1, .int .i64 i2, .int .i64 i3, .int .i64 i4, .int .i64 i5, .int .i64 i6, .int .i64 i7, .int .i64 i8, .string t, .slice (some ⟨w.heap.size + 1 + 1 + 1, 0, none⟩) l.length l.length, .slice (some ⟨W1.heap.size, 0, none⟩) m.length m.length]) (by simp [results, Try.results6, go_sem, t1]) rfl ⟨w.heap.size + 1 + 1 + 1, W1.heap.size, rfl, ?_, ?_, ?_⟩
  · have hl1 : w.heap.size + 1 < w.heap.size + 3 := by omega
    have hl2 : w.heap.size + 1 + 1 < w.heap.size + 3 := by omega
    refine Go.Joins.ownsRow_le (base := w.heap.size + 3) ?_ (by omega)
    repeat refine ownsRow_setCell_below ?_ (by first | exact hl1 | exact hl2) _
    have o := unhide HO2
    simp at o
    exact o
  · have hzW := unhide HZW
    have hl1 : w.heap.size + 1 < W1.heap.size := by omega
    have hl2 : w.heap.size + 1 + 1 < W1.heap.size := by omega
    refine Go.Joins.ownsRow_le (base := W1.heap.size) ?_ (by omega)
    repeat refine ownsRow_setCell_below ?_ (by first | exact hl1 | exact hl2) _
    exact unhide HP2
  · have hl1 : w.heap.size ≤ w.heap.size + 1 := by omega
    have hl2 : w.heap.size ≤ w.heap.size + 1 + 1 := by omega
    repeat refine Below.setCell ?_ (by first | exact hl1 | exact hl2) _
    exact unhide HB2
end Go.Proofs.Yteeklocaaidimaa
