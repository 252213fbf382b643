/- At every argument that can be read, the law FnExactResizeScreen returns true and leaves its arguments as they were: no condition. -/
import Derived.Test.YteeklocaaidimaaRszAll
import Derived.Test.YteeklocaaidimaaAgg12
import Derived.WalkKit
import Derived.ProofKit
import Derived.OpenShut
import Derived.ShutString
import Derived.ChangeOld
import Derived.Below
import Derived.Deep.Strs
namespace Go.Proofs.Yteeklocaaidimaa
open Go.ChangeShapes Go.WideShapes Go.ChangeAt Go.RowKit
set_option linter.unusedVariables false

theorem own : ownKnob Try.prog.godebug = none := by kernel_rfl
theorem laidOut : laidOutB Try.prog = true := by kernel_rfl
set_option maxHeartbeats 4000000 in
set_option maxRecDepth 100000 in
theorem walk (w : World) (i0 i1 i2 i3 i4 i5 i6 i7 i8 : Int) (t : ByteArray) (wt : t.size ≤ maxLen) (a : Option Addr) (len cap : Nat) (l : List (Int × Int)) (el : l.length = len) (ml : len ≤ maxLen) (rl : RowV w a (cP l)) (b : Option Addr) (lenb capb : Nat) (m : List ByteArray) (em : m.length = lenb) (mm : lenb ≤ maxLen) (sm : ∀ k (h : k < m.length), m[k].size ≤ maxLen) (rm : RowV w b (cS m)) (x1 : Int) (y1 : (Lit.int .i64 x1).wf = true) (x2 : Int) (y2 : (Lit.int .i64 x2).wf = true) :
    Calls Try.prog 3 #[.agg #[.int .i64 i0, .int .i64 i1, .int .i64 i2, .int .i64 i3, .int .i64 i4, .int .i64 i5, .int .i64 i6, .int .i64 i7, .int .i64 i8, .string t, .slice a len cap, .slice b lenb capb], .int .i64 x1, .int .i64 x2] w fun e w' => e = .returned (.bool true) ∧ Below w.heap.size w w' := by
  subst el em
  have HR := hide rl
  have HS := hide rm
  obtain ⟨j0, j1, j2, j3, j4, j6, j7, j8, c, t2, l2, m2, his, hn2, hm2⟩ := rs_is i0 i1 i2 i3 i4 i5 i6 i7 i8 t l m x1 x2
  have HIS := hide his
  have HN2 := hide hn2
  have HM2 := hide hm2
  have nc : (c != c) = false := by simp
  obtain ⟨q, hq⟩ : ∃ q : Int, q = ((1 + l2.length * 2 + m2.length : Nat) : Int) := ⟨_, rfl⟩
  obtain ⟨p, hp⟩ : ∃ p : Int, p = ((1 + l.length * 2 + m.length : Nat) : Int) := ⟨_, rfl⟩
  have q0 : 0 < q := by omega
  have p0 : 0 < p := by omega
  have nq : (q != q) = false := by simp
  have q1 : ¬ q < 0 := by omega
  have p1 : ¬ p < 0 := by omega
  have HQ := hide hq
  have HPP := hide hp
  clear rl rm hq hp his hn2 hm2
  have B_0 := hide ((Below.refl w.heap.size w).alloc (Nat.le_refl _) (.cells #[.int .i64 i0, .int .i64 i1, .int .i64 i2, .int .i64 i3, .int .i64 i4, .int .i64 i5, .int .i64 i6, .int .i64 i7, .int .i64 i8, .string t, .slice a l.length cap, .slice b m.length capb] 25))
  have A_0 := hide (Blk.new w #[.int .i64 i0, .int .i64 i1, .int .i64 i2, .int .i64 i3, .int .i64 i4, .int .i64 i5, .int .i64 i6, .int .i64 i7, .int .i64 i8, .string t, .slice a l.length cap, .slice b m.length capb] 25)
  go_enter Try.func3, Try.ntmps3
  go_wp2_with fail
  refine (szScr i0 i1 i2 i3 i4 i5 i6 i7 i8 t a l.length cap b capb m wt ml mm sm _ ((unhide HS).below (unhide B_0))).mono ?_
  rintro e w1 ⟨x, rfl, hb1, hx⟩
  clear wt ml mm sm
  have B_1 := hide ((unhide B_0).trans (hb1.mono (unhide B_0).size))
  clear B_0
  have A_2 := hide ((unhide A_0).below hb1)
  clear A_0
  clear hb1
  rcases hx with rfl | ⟨hx0, ht, hl, hm, hz⟩
  · go_wp2_with fail
    go_ret
    exact ⟨rfl, (unhide B_1)⟩
  have HTS := hide ht
  have HL := hide hl
  have HM := hide hm
  have HZ := hide hz
  have hx3 : ¬ x < 0 := by omega
  clear ht hl hm hz
  have KA := (unhide A_2).S
  go_wp2_with fail
  refine (toScr i0 i1 i2 i3 i4 i5 i6 i7 i8 t a cap l b capb m (unhide HL) (unhide HM) _ ((unhide HR).below (unhide B_1)) ((unhide HS).below (unhide B_1))).mono ?_
  rintro e w2 ⟨g2, h2, rfl, o2, p2, hb2⟩
  clear KA
  have B_3 := hide ((unhide B_1).trans (hb2.mono (unhide B_1).size))
  clear B_1
  have A_4 := hide ((unhide A_2).below hb2)
  clear A_2
  have HO2 := hide (rowZ_at o2)
  have HP2 := hide (rowZ_at p2)
  clear o2 p2 hb2
  go_wp2_with fail
  refine (srs i0 i1 i2 i3 i4 i5 i6 i7 i8 t _ _ l _ _ m (unhide HTS) (unhide HL) (unhide HM) (unhide HZ) x1 x2 j0 j1 j2 j3 j4 j6 j7 j8 c t2 l2 m2 (unhide HIS) (Nat.le_refl _) _ (unhide HO2) (unhide HP2)).mono ?_
  rintro e w3 ⟨aW, capW, bW, capbW, rfl, o3, p3, hb3⟩
  have B_5 := hide ((unhide B_3).trans (hb3.mono (unhide B_3).size))
  clear B_3
  have A_6 := hide ((unhide A_4).below hb3)
  clear A_4
  have W_0 := hide (ScrIn.laid (sc := #[.int .i64 j0, .int .i64 j1, .int .i64 j2, .int .i64 j3, .int .i64 j4, .int .i64 0, .int .i64 j6, .int .i64 j7, .int .i64 j8, .string t2, .slice aW l2.length capW, .slice bW m2.length capbW]) o3 p3)
  have B_7 := hide ((unhide B_5).alloc (unhide B_5).size (.cells #[.int .i64 j0, .int .i64 j1, .int .i64 j2, .int .i64 j3, .int .i64 j4, .int .i64 0, .int .i64 j6, .int .i64 j7, .int .i64 j8, .string t2, .slice aW l2.length capW, .slice bW m2.length capbW] 29))
  clear B_5
  have A_8 := hide ((unhide A_6).alloc (.cells #[.int .i64 j0, .int .i64 j1, .int .i64 j2, .int .i64 j3, .int .i64 j4, .int .i64 0, .int .i64 j6, .int .i64 j7, .int .i64 j8, .string t2, .slice aW l2.length capW, .slice bW m2.length capbW] 29))
  clear A_6
  clear o3 p3 hb3 HO2 HP2
  have z3 : w.heap.size < w3.heap.size + 1 := by have := (unhide A_8).lt; simp at this; omega
  have KA := (unhide A_8).S
  go_wp2_with fail
  refine (toScr i0 i1 i2 i3 i4 i5 i6 i7 i8 t a cap l b capb m (unhide HL) (unhide HM) _ ((unhide HR).below (unhide B_7)) ((unhide HS).below (unhide B_7))).mono ?_
  rintro e w4 ⟨gx, hx, rfl, o4, p4, hb4⟩
  clear KA
  have B_9 := hide ((unhide B_7).trans (hb4.mono (unhide B_7).size))
  clear B_7
  have A_10 := hide ((unhide A_8).below hb4)
  clear A_8
  have W_11 := hide ((unhide W_0).below hb4)
  clear W_0
  have X_0 := hide (ScrIn.laid (sc := #[.int .i64 i0, .int .i64 i1, .int .i64 i2, .int .i64 i3, .int .i64 i4, .int .i64 i5, .int .i64 i6, .int .i64 i7, .int .i64 i8, .string t, .slice (some ⟨gx, 0, none⟩) l.length l.length, .slice (some ⟨hx, 0, none⟩) m.length m.length]) o4 p4)
  have B_12 := hide ((unhide B_9).alloc (unhide B_9).size (.cells #[.int .i64 i0, .int .i64 i1, .int .i64 i2, .int .i64 i3, .int .i64 i4, .int .i64 i5, .int .i64 i6, .int .i64 i7, .int .i64 i8, .string t, .slice (some ⟨gx, 0, none⟩) l.length l.length, .slice (some ⟨hx, 0, none⟩) m.length m.length] 29))
  clear B_9
  have A_13 := hide ((unhide A_10).alloc (.cells #[.int .i64 i0, .int .i64 i1, .int .i64 i2, .int .i64 i3, .int .i64 i4, .int .i64 i5, .int .i64 i6, .int .i64 i7, .int .i64 i8, .string t, .slice (some ⟨gx, 0, none⟩) l.length l.length, .slice (some ⟨hx, 0, none⟩) m.length m.length] 29))
  clear A_10
  have W_14 := hide ((unhide W_11).alloc (.cells #[.int .i64 i0, .int .i64 i1, .int .i64 i2, .int .i64 i3, .int .i64 i4, .int .i64 i5, .int .i64 i6, .int .i64 i7, .int .i64 i8, .string t, .slice (some ⟨gx, 0, none⟩) l.length l.length, .slice (some ⟨hx, 0, none⟩) m.length m.length] 29))
  clear W_11
  have HO4 := hide (rowZ_at (o4.alloc (.cells #[.int .i64 i0, .int .i64 i1, .int .i64 i2, .int .i64 i3, .int .i64 i4, .int .i64 i5, .int .i64 i6, .int .i64 i7, .int .i64 i8, .string t, .slice (some ⟨gx, 0, none⟩) l.length l.length, .slice (some ⟨hx, 0, none⟩) m.length m.length] 29)))
  have HP4 := hide (rowZ_at (p4.alloc (.cells #[.int .i64 i0, .int .i64 i1, .int .i64 i2, .int .i64 i3, .int .i64 i4, .int .i64 i5, .int .i64 i6, .int .i64 i7, .int .i64 i8, .string t, .slice (some ⟨gx, 0, none⟩) l.length l.length, .slice (some ⟨hx, 0, none⟩) m.length m.length] 29)))
  rw [show (w3.alloc (.cells #[.int .i64 j0, .int .i64 j1, .int .i64 j2, .int .i64 j3, .int .i64 j4, .int .i64 0, .int .i64 j6, .int .i64 j7, .int .i64 j8, .string t2, .slice aW l2.length capW, .slice bW m2.length capbW] 29)).heap.size = w3.heap.size + 1 from by simp] at X_0
  have z34 : w3.heap.size + 1 ≤ w4.heap.size := by have := hb4.size; simp at this; omega
  clear o4 p4 hb4
  have KX := (unhide X_0).box
  go_wp2_with fail
  refine (irs i0 i1 i2 i3 i4 i5 i6 i7 i8 t _ _ l _ _ m (unhide HTS) (unhide HL) (unhide HM) (unhide HZ) x1 x2 j0 j1 j2 j3 j4 j6 j7 j8 c t2 l2 m2 (unhide HIS) (Nat.le_refl _) _ (unhide HO4) (unhide HP4)).mono ?_
  rintro e w5 ⟨aG, capG, bG, capbG, rfl, o5, p5, hb5⟩
  clear KX
  have B_15 := hide ((unhide B_12).trans (hb5.mono (unhide B_12).size))
  clear B_12
  have A_16 := hide ((unhide A_13).below hb5)
  clear A_13
  have W_17 := hide ((unhide W_14).below hb5)
  clear W_14
  have X_18 := hide ((unhide X_0).below hb5)
  clear X_0
  have G_0 := hide (ScrIn.laid (sc := #[.int .i64 j0, .int .i64 j1, .int .i64 j2, .int .i64 j3, .int .i64 j4, .int .i64 0, .int .i64 j6, .int .i64 j7, .int .i64 j8, .string t2, .slice aG l2.length capG, .slice bG m2.length capbG]) o5 p5)
  have B_19 := hide ((unhide B_15).alloc (unhide B_15).size (.cells #[.int .i64 j0, .int .i64 j1, .int .i64 j2, .int .i64 j3, .int .i64 j4, .int .i64 0, .int .i64 j6, .int .i64 j7, .int .i64 j8, .string t2, .slice aG l2.length capG, .slice bG m2.length capbG] 29))
  clear B_15
  have A_20 := hide ((unhide A_16).alloc (.cells #[.int .i64 j0, .int .i64 j1, .int .i64 j2, .int .i64 j3, .int .i64 j4, .int .i64 0, .int .i64 j6, .int .i64 j7, .int .i64 j8, .string t2, .slice aG l2.length capG, .slice bG m2.length capbG] 29))
  clear A_16
  have W_21 := hide ((unhide W_17).alloc (.cells #[.int .i64 j0, .int .i64 j1, .int .i64 j2, .int .i64 j3, .int .i64 j4, .int .i64 0, .int .i64 j6, .int .i64 j7, .int .i64 j8, .string t2, .slice aG l2.length capG, .slice bG m2.length capbG] 29))
  clear W_17
  have X_22 := hide ((unhide X_18).alloc (.cells #[.int .i64 j0, .int .i64 j1, .int .i64 j2, .int .i64 j3, .int .i64 j4, .int .i64 0, .int .i64 j6, .int .i64 j7, .int .i64 j8, .string t2, .slice aG l2.length capG, .slice bG m2.length capbG] 29))
  clear X_18
  rw [show (w4.alloc (.cells #[.int .i64 i0, .int .i64 i1, .int .i64 i2, .int .i64 i3, .int .i64 i4, .int .i64 i5, .int .i64 i6, .int .i64 i7, .int .i64 i8, .string t, .slice (some ⟨gx, 0, none⟩) l.length l.length, .slice (some ⟨hx, 0, none⟩) m.length m.length] 29)).heap.size = w4.heap.size + 1 from by simp] at G_0
  have z45 : w4.heap.size + 1 ≤ w5.heap.size := by have := hb5.size; simp at this; omega
  clear o5 p5 hb5 HO4 HP4
  have KW := (unhide W_21).box
  have KG := (unhide G_0).box
  go_wp2_with fail
  refine (eqScr j0 j1 j2 j3 j4 0 j6 j7 j8 t2 aG aW capG capW l2 bG bW capbG capbW m2 (Nat.le_trans (unhide HN2) (by decide)) (Nat.le_trans (unhide HM2) (by decide)) _ (unhide G_0).cells.rowV (unhide W_21).cells.rowV (unhide G_0).hist.rowV (unhide W_21).hist.rowV).mono ?_
  rintro e w6 ⟨rfl, hb6⟩
  clear KW KG
  have B_23 := hide ((unhide B_19).trans (hb6.mono (unhide B_19).size))
  clear B_19
  have A_24 := hide ((unhide A_20).below hb6)
  clear A_20
  have W_25 := hide ((unhide W_21).below hb6)
  clear W_21
  have X_26 := hide ((unhide X_22).below hb6)
  clear X_22
  have G_27 := hide ((unhide G_0).below hb6)
  clear G_0
  clear hb6
  have K6 := And.intro (unhide A_24).S (unhide X_26).box
  have HU6 := hide (unhide X_26).cells.rowV
  have HV6 := hide (unhide X_26).hist.rowV
  have LX : w4.heap.size < w6.heap.size := (unhide X_26).lt
  go_wp2_with fail
  go_region_held3 (fun w' => (∀ o, w'.cell? ⟨w.heap.size, o, none⟩ = (#[.int .i64 i0, .int .i64 i1, .int .i64 i2, .int .i64 i3, .int .i64 i4, .int .i64 i5, .int .i64 i6, .int .i64 i7, .int .i64 i8, .string t, .slice a l.length cap, .slice b m.length capb] : Array Value)[o]?) ∧ (∀ o, w'.cell? ⟨w4.heap.size, o, none⟩ = (#[.int .i64 i0, .int .i64 i1, .int .i64 i2, .int .i64 i3, .int .i64 i4, .int .i64 i5, .int .i64 i6, .int .i64 i7, .int .i64 i8, .string t, .slice (some ⟨gx, 0, none⟩) l.length l.length, .slice (some ⟨hx, 0, none⟩) m.length m.length] : Array Value)[o]?)) (first | exact K6 | exact K7 | exact K8) (first | (go_at_call 6; refine (toScr i0 i1 i2 i3 i4 i5 i6 i7 i8 t a cap l b capb m (unhide HL) (unhide HM) _ ((unhide HR).below (unhide B_23).drew) ((unhide HS).below (unhide B_23).drew)).mono ?_; rintro e w7 ⟨g7, h7, rfl, o7, p7, hb7⟩; have A7 := hide ((unhide A_24).drew.below hb7); have K7 := And.intro (unhide A7).S (fun o => (hb7.cell (p := ⟨w4.heap.size, o, none⟩) LX).trans (K6.2 o)); have HO7 := hide (rowZ_at o7); have HP7 := hide (rowZ_at p7); have HU7 := hide ((unhide HU6).below (below_undrew hb7)); have HV7 := hide ((unhide HV6).below (below_undrew hb7)); have HT7 := hide (below_undrew hb7); have LX7 : w4.heap.size < w7.heap.size := Nat.lt_of_lt_of_le LX (unhide HT7).size; clear o7 p7 hb7) | (go_at_call 8; refine (eqScr i0 i1 i2 i3 i4 i5 i6 i7 i8 t _ _ _ _ l _ _ _ _ m (unhide HL) (unhide HM) _ (unhide HU7) (unhide HO7) (unhide HV7) (unhide HP7)).mono ?_; rintro e w8 ⟨rfl, hb8⟩; have A8 := hide ((unhide A7).below hb8); have K8 := And.intro (unhide A8).S (fun o => (hb8.cell (p := ⟨w4.heap.size, o, none⟩) LX7).trans (K7.2 o)); have HT8 := hide ((unhide HT7).trans (hb8.mono (unhide HT7).size)); clear hb8))
  clear K6 K7 K8 A7 A8 HO7 HP7 HU6 HV6 HU7 HV7 HT7 LX LX7
  have B_28 := hide ((unhide B_23).trans ((unhide HT8).mono (unhide B_23).size))
  clear B_23
  have A_29 := hide ((unhide A_24).below (unhide HT8))
  clear A_24
  have W_30 := hide ((unhide W_25).below (unhide HT8))
  clear W_25
  have X_31 := hide ((unhide X_26).below (unhide HT8))
  clear X_26
  have G_32 := hide ((unhide G_27).below (unhide HT8))
  clear G_27
  clear HT8
  have KX := (unhide X_31).box
  go_wp2_with fail
  refine (markScr2 i0 i1 i2 i3 i4 i5 i6 i7 i8 t _ _ l.length m.length (w3.heap.size + 1) w4.heap.size p _ _ (unhide HPP) (unhide HL) (unhide HM) _ (unhide X_31).cells (unhide X_31).hist).mono ?_
  rintro e w9 ⟨rfl, -, -, hs9⟩
  clear KX
  have B_33 := hide ((unhide B_28).trans (hs9.below (by omega) (unhide B_28).size))
  clear B_28
  have A_34 : Hid (Blk w.heap.size #[.int .i64 i0, .int .i64 i1, .int .i64 i2, .int .i64 i3, .int .i64 i4, .int .i64 i5, .int .i64 i6, .int .i64 i7, .int .i64 i8, .string t, .slice a l.length cap, .slice b m.length capb] w9) := ⟨fun o => (World.cell?_of_block (hs9.block w.heap.size (unhide A_29).lt (.inl (by omega)))).trans ((unhide A_29).S o), Nat.lt_of_lt_of_le (unhide A_29).lt hs9.size⟩
  clear A_29
  have W_35 := hide ((unhide W_30).spared hs9 (.inl (by omega)) (.inl (by omega)))
  clear W_30
  clear X_31
  have G_36 := hide ((unhide G_32).spared hs9 (.inr (by omega)) (.inr (by omega)))
  clear G_32
  clear hs9
  have KW := (unhide W_35).box
  have KG := (unhide G_36).box
  go_wp2_with fail
  refine (eqScr j0 j1 j2 j3 j4 0 j6 j7 j8 t2 aG aW capG capW l2 bG bW capbG capbW m2 (Nat.le_trans (unhide HN2) (by decide)) (Nat.le_trans (unhide HM2) (by decide)) _ (unhide G_36).cells.rowV (unhide W_35).cells.rowV (unhide G_36).hist.rowV (unhide W_35).hist.rowV).mono ?_
  rintro e w10 ⟨rfl, hb10⟩
  clear KW KG
  have B_37 := hide ((unhide B_33).trans (hb10.mono (unhide B_33).size))
  clear B_33
  have A_38 := hide ((unhide A_34).below hb10)
  clear A_34
  have W_39 := hide ((unhide W_35).below hb10)
  clear W_35
  have G_40 := hide ((unhide G_36).below hb10)
  clear G_36
  clear hb10
  have KG := (unhide G_40).box
  go_wp2_with fail
  refine (markScr j0 j1 j2 j3 j4 0 j6 j7 j8 t2 _ _ l2.length m2.length _ _ q (cP l2) (cS m2) (unhide HQ) (Nat.le_trans (unhide HN2) (by decide)) (Nat.le_trans (unhide HM2) (by decide)) _ (unhide G_40).cells (unhide G_40).hist).mono ?_
  rintro e w11 ⟨rfl, hc11, hh11, hs11⟩
  clear KG
  have G_m := hide ((unhide G_40).marked hs11 hc11 hh11)
  clear G_40
  have B_41 := hide ((unhide B_37).trans (hs11.below (by omega) (unhide B_37).size))
  clear B_37
  have A_42 : Hid (Blk w.heap.size #[.int .i64 i0, .int .i64 i1, .int .i64 i2, .int .i64 i3, .int .i64 i4, .int .i64 i5, .int .i64 i6, .int .i64 i7, .int .i64 i8, .string t, .slice a l.length cap, .slice b m.length capb] w11) := ⟨fun o => (World.cell?_of_block (hs11.block w.heap.size (unhide A_38).lt (.inl (by omega)))).trans ((unhide A_38).S o), Nat.lt_of_lt_of_le (unhide A_38).lt hs11.size⟩
  clear A_38
  have W_43 := hide ((unhide W_39).spared hs11 (.inl (by omega)) (.inl (by omega)))
  clear W_39
  clear hs11 hc11 hh11
  have KG := (unhide G_m).box
  go_wp2_with fail
  refine (heldScr j0 j1 j2 j3 j4 0 j6 j7 j8 t2 _ _ l2.length m2.length _ _ q (unhide HQ) (Nat.le_trans (unhide HN2) (by decide)) (Nat.le_trans (unhide HM2) (by decide)) _ (unhide G_m).cells (unhide G_m).hist).mono ?_
  rintro e w12 ⟨rfl, hb12⟩
  clear KG
  have B_44 := hide ((unhide B_41).trans (hb12.mono (unhide B_41).size))
  clear B_41
  have A_45 := hide ((unhide A_42).below hb12)
  clear A_42
  have W_46 := hide ((unhide W_43).below hb12)
  clear W_43
  have G_47 := hide ((unhide G_m).below hb12)
  clear G_m
  clear hb12
  have KA := (unhide A_45).S
  go_wp2_with fail
  refine (toScr i0 i1 i2 i3 i4 i5 i6 i7 i8 t a cap l b capb m (unhide HL) (unhide HM) _ ((unhide HR).below (unhide B_44)) ((unhide HS).below (unhide B_44))).mono ?_
  rintro e w13 ⟨g13, h13, rfl, o13, p13, hb13⟩
  clear KA
  clear A_45
  have B_48 := hide ((unhide B_44).trans (hb13.mono (unhide B_44).size))
  clear B_44
  have W_49 := hide ((unhide W_46).below hb13)
  clear W_46
  have G_50 := hide ((unhide G_47).below hb13)
  clear G_47
  have HO13 := hide (rowZ_at o13)
  have HP13 := hide (rowZ_at p13)
  clear o13 p13 hb13
  go_wp2_with fail
  refine (irs i0 i1 i2 i3 i4 i5 i6 i7 i8 t _ _ l _ _ m (unhide HTS) (unhide HL) (unhide HM) (unhide HZ) x1 x2 j0 j1 j2 j3 j4 j6 j7 j8 c t2 l2 m2 (unhide HIS) (Nat.le_refl _) _ (unhide HO13) (unhide HP13)).mono ?_
  rintro e w14 ⟨aH, capH, bH, capbH, rfl, o14, p14, hb14⟩
  have B_51 := hide ((unhide B_48).trans (hb14.mono (unhide B_48).size))
  clear B_48
  have W_52 := hide ((unhide W_49).below hb14)
  clear W_49
  have G_53 := hide ((unhide G_50).below hb14)
  clear G_50
  have H_0 := hide (ScrIn.laid (sc := #[.int .i64 j0, .int .i64 j1, .int .i64 j2, .int .i64 j3, .int .i64 j4, .int .i64 0, .int .i64 j6, .int .i64 j7, .int .i64 j8, .string t2, .slice aH l2.length capH, .slice bH m2.length capbH]) o14 p14)
  have B_54 := hide ((unhide B_51).alloc (unhide B_51).size (.cells #[.int .i64 j0, .int .i64 j1, .int .i64 j2, .int .i64 j3, .int .i64 j4, .int .i64 0, .int .i64 j6, .int .i64 j7, .int .i64 j8, .string t2, .slice aH l2.length capH, .slice bH m2.length capbH] 29))
  clear B_51
  have W_55 := hide ((unhide W_52).alloc (.cells #[.int .i64 j0, .int .i64 j1, .int .i64 j2, .int .i64 j3, .int .i64 j4, .int .i64 0, .int .i64 j6, .int .i64 j7, .int .i64 j8, .string t2, .slice aH l2.length capH, .slice bH m2.length capbH] 29))
  clear W_52
  have G_56 := hide ((unhide G_53).alloc (.cells #[.int .i64 j0, .int .i64 j1, .int .i64 j2, .int .i64 j3, .int .i64 j4, .int .i64 0, .int .i64 j6, .int .i64 j7, .int .i64 j8, .string t2, .slice aH l2.length capH, .slice bH m2.length capbH] 29))
  clear G_53
  clear o14 p14 hb14 HO13 HP13
  have KW := (unhide W_55).box
  have KH := (unhide H_0).box
  go_wp2_with fail
  refine (eqScr j0 j1 j2 j3 j4 0 j6 j7 j8 t2 aH aW capH capW l2 bH bW capbH capbW m2 (Nat.le_trans (unhide HN2) (by decide)) (Nat.le_trans (unhide HM2) (by decide)) _ (unhide H_0).cells.rowV (unhide W_55).cells.rowV (unhide H_0).hist.rowV (unhide W_55).hist.rowV).mono ?_
  rintro e w15 ⟨rfl, hb15⟩
  clear KW KH
  have B_57 := hide ((unhide B_54).trans (hb15.mono (unhide B_54).size))
  clear B_54
  have W_58 := hide ((unhide W_55).below hb15)
  clear W_55
  have G_59 := hide ((unhide G_56).below hb15)
  clear G_56
  have H_60 := hide ((unhide H_0).below hb15)
  clear H_0
  clear hb15
  have KG := (unhide G_59).box
  go_wp2_with fail
  refine (heldScr j0 j1 j2 j3 j4 0 j6 j7 j8 t2 _ _ l2.length m2.length _ _ q (unhide HQ) (Nat.le_trans (unhide HN2) (by decide)) (Nat.le_trans (unhide HM2) (by decide)) _ (unhide G_59).cells (unhide G_59).hist).mono ?_
  rintro e w16 ⟨rfl, hb16⟩
  clear KG
  have B_61 := hide ((unhide B_57).trans (hb16.mono (unhide B_57).size))
  clear B_57
  have W_62 := hide ((unhide W_58).below hb16)
  clear W_58
  have G_63 := hide ((unhide G_59).below hb16)
  clear G_59
  have H_64 := hide ((unhide H_60).below hb16)
  clear H_60
  clear hb16
  go_wp2_with fail
  go_ret
  exact ⟨rfl, (unhide B_61)⟩

set_option maxRecDepth 100000 in
theorem lifted (os : Os) (started : os.Started) (H : Type) (enc : TypeId × Value → H) :
    ReturnsInHanded {} Try.checked os 3 .any (Rows.fnExactResizeScreenSpec.pre6 enc Try.prog Try.f3 Rows.fnExactResizeScreenRow.domain false) (Rows.fnExactResizeScreenSpec.post enc Try.prog Try.f3 false true false false) := by
  refine returnsInHanded_of_change (C := Try.checked) own started (by kernel_rfl) Try.func3
    (ChangeSpec.witness6 (enc := enc) (C := Try.checked) false ⟨#[], #[.agg #[.int .i64 0, .int .i64 0, .int .i64 0, .int .i64 0, .int .i64 0, .int .i64 0, .int .i64 0, .int .i64 0, .int .i64 0, .string ⟨#[]⟩, .slice none 0 0, .slice none 0 0], .int .i64 0, .int .i64 0], []⟩ 8 (by kernel_rfl) (by kernel_rfl) (by kernel_rfl) (by kernel_rfl)) ?_
  intro W base args ds gs before hval0 hW hcnd _
  have hval : ∀ (j : Nat) t v, Try.f3.params[j]? = some t → args[j]? = some v → Value.okWide Try.prog W .any base t v := hval0
  have hW' := hW
  obtain ⟨p, q, hA0, hV, rfl, hfz, hnd⟩ := hW
  have hA : DataW.TrodAll enc Try.prog W 0 (fun _ => true) true Try.f3.params.toList args.toList ds p := hA0
  rw [Try.params3] at hA hval
  obtain ⟨v0, vs0, d0, ds0, p0, q0, hargs, rfl, rfl, h0, r0⟩ := trodAll_cons hA
  obtain ⟨v1, vs1, d1, ds1, p1, q1, rfl, rfl, rfl, h1, r1⟩ := trodAll_cons r0
  obtain ⟨v2, vs2, d2, ds2, p2, q2, rfl, rfl, rfl, h2, r2⟩ := trodAll_cons r1
  obtain ⟨rfl, rfl, rfl⟩ := trodAll_nil r2
  obtain rfl : args = #[v0, v1, v2] := by cases args; simp_all
  obtain ⟨rfl, rfl⟩ := trodVars_none hV
  have k0 := h0
  have lt0 : ∀ x ∈ p0, x.block < W.heap.size := by obtain ⟨m, hm⟩ := k0; exact DataW.trod_lt m _ _ _ hm
  have k1 := h1
  have lt1 : ∀ x ∈ p1, x.block < W.heap.size := by obtain ⟨m, hm⟩ := k1; exact DataW.trod_lt m _ _ _ hm
  have k2 := h2
  have lt2 : ∀ x ∈ p2, x.block < W.heap.size := by obtain ⟨m, hm⟩ := k2; exact DataW.trod_lt m _ _ _ hm
  obtain ⟨c0_0, c0_1, c0_2, c0_3, c0_4, c0_5, c0_6, c0_7, c0_8, c0_9, c0_10, c0_11, u0_0, u0_1, u0_2, u0_3, u0_4, u0_5, u0_6, u0_7, u0_8, u0_9, u0_10, u0_11, n0, rfl, z0_0, z0_1, z0_2, z0_3, z0_4, z0_5, z0_6, z0_7, z0_8, z0_9, z0_10, z0_11⟩ := open_agg12 Try.underlying25 (by kernel_rfl) (by kernel_rfl) (hval 0 25 v0 rfl rfl) h0
  obtain ⟨i0, e0_0, -, -⟩ := DataW.trod_int Try.underlying3 z0_0
  obtain rfl : c0_0 = .int .i64 i0 := by simpa using e0_0
  obtain ⟨i1, e0_1, -, -⟩ := DataW.trod_int Try.underlying3 z0_1
  obtain rfl : c0_1 = .int .i64 i1 := by simpa using e0_1
  obtain ⟨i2, e0_2, -, -⟩ := DataW.trod_int Try.underlying3 z0_2
  obtain rfl : c0_2 = .int .i64 i2 := by simpa using e0_2
  obtain ⟨i3, e0_3, -, -⟩ := DataW.trod_int Try.underlying3 z0_3
  obtain rfl : c0_3 = .int .i64 i3 := by simpa using e0_3
  obtain ⟨i4, e0_4, -, -⟩ := DataW.trod_int Try.underlying3 z0_4
  obtain rfl : c0_4 = .int .i64 i4 := by simpa using e0_4
  obtain ⟨i5, e0_5, -, -⟩ := DataW.trod_int Try.underlying3 z0_5
  obtain rfl : c0_5 = .int .i64 i5 := by simpa using e0_5
  obtain ⟨i6, e0_6, -, -⟩ := DataW.trod_int Try.underlying3 z0_6
  obtain rfl : c0_6 = .int .i64 i6 := by simpa using e0_6
  obtain ⟨i7, e0_7, -, -⟩ := DataW.trod_int Try.underlying3 z0_7
  obtain rfl : c0_7 = .int .i64 i7 := by simpa using e0_7
  obtain ⟨i8, e0_8, -, -⟩ := DataW.trod_int Try.underlying3 z0_8
  obtain rfl : c0_8 = .int .i64 i8 := by simpa using e0_8
  obtain ⟨t, e0_9, -, wt⟩ := DataW.trod_string Try.underlying9 z0_9
  obtain rfl : c0_9 = .string t := by simpa using e0_9
  obtain ⟨a, len, cap, l, rfl, el, ml, rl⟩ := pairs_field Try.underlying22 Try.underlying53 (by kernel_rfl) rfl rfl (by kernel_rfl) (by kernel_rfl) Try.underlying3 Try.underlying3 z0_10
  obtain ⟨b, lenb, capb, m, rfl, em, mm, sm, rm⟩ := strs_field Try.underlying23 Try.underlying9 (by kernel_rfl) z0_11
  obtain ⟨x1, rfl, rfl, rfl, y1⟩ := open_int Try.underlying3 (hval 1 3 v1 rfl rfl) h1
  obtain ⟨x2, rfl, rfl, rfl, y2⟩ := open_int Try.underlying3 (hval 2 3 v2 rfl rfl) h2
  clear hA0 hval0
  refine (walk W i0 i1 i2 i3 i4 i5 i6 i7 i8 t wt a len cap l el ml rl b lenb capb m em mm sm rm x1 y1 x2 y2).mono fun e W' ⟨he, bel⟩ => ?_
  subst he
  exact ⟨_, rfl, _, _, _, [], _, [], hW', trodAll_mk1 (shut_bool Try.underlying4 _), (trodAll_cons_mk (Below.trod laidOut (by kernel_rfl) (of_decide_eq_true (by kernel_rfl)) k0 bel lt0) (trodAll_cons_mk (Below.trod laidOut (by kernel_rfl) (of_decide_eq_true (by kernel_rfl)) k1 bel lt1) (trodAll_cons_mk (Below.trod laidOut (by kernel_rfl) (of_decide_eq_true (by kernel_rfl)) k2 bel lt2) trodAll_mk0))), rfl, bel.frame _, fun h => by cases h⟩

theorem over : Rows.fnExactResizeScreenRow.holds Try.pinned (OpenSpec.ofChange Rows.fnExactResizeScreenSpec) :=
  OpenClaim.holds_of_wide 3 Try.f3 rfl rfl rfl rfl rfl rfl rfl ⟨rfl, rfl, rfl, rfl, rfl⟩ rfl rfl rfl rfl rfl (by kernel_rfl) Try.func3 (by kernel_rfl)
    (of_decide_eq_true (by kernel_rfl)) (by unfold Func.isWrapper; first | (rw [if_pos (by decide +kernel)]; kernel_rfl) | (rw [if_neg (by decide +kernel)]; exact ⟨rfl, rfl⟩))
    (fun os started H enc _ => lifted os started H enc)

theorem proved : Rows.FnExactResizeScreenSaid := over
#print axioms proved
end Go.Proofs.Yteeklocaaidimaa
