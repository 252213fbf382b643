/- At every argument that can be read, the law FnExactScreenBytes returns true and leaves its arguments as they were: no condition. -/
import Derived.Test.YtokfmcajikmhmaaSbAll
import Derived.Test.YtokfmcajikmhmaaAgg12
import Derived.WalkKit
import Derived.ProofKit
import Derived.OpenShut
import Derived.ShutString
import Derived.ChangeOld
import Derived.Below
import Derived.Deep.Strs
namespace Go.Proofs.Ytokfmcajikmhmaa
open Go.ChangeShapes Go.WideShapes Go.ChangeAt Go.RowKit
set_option linter.unusedVariables false

theorem own : ownKnob Try.prog.godebug = none := by kernel_rfl
theorem laidOut : laidOutB Try.prog = true := by kernel_rfl
set_option maxHeartbeats 4000000 in
set_option maxRecDepth 100000 in
theorem walk (w : World) (i0 i1 i2 i3 i4 i5 i6 i7 i8 : Int) (t : ByteArray) (wt : t.size ≤ maxLen) (a : Option Addr) (len cap : Nat) (l : List (Int × Int)) (el : l.length = len) (ml : len ≤ maxLen) (rl : RowV w a (cP l)) (b : Option Addr) (lenb capb : Nat) (m : List ByteArray) (em : m.length = lenb) (mm : lenb ≤ maxLen) (sm : ∀ k (h : k < m.length), m[k].size ≤ maxLen) (rm : RowV w b (cS m)) :
    Calls Try.prog 3 #[.agg #[.int .i64 i0, .int .i64 i1, .int .i64 i2, .int .i64 i3, .int .i64 i4, .int .i64 i5, .int .i64 i6, .int .i64 i7, .int .i64 i8, .string t, .slice a len cap, .slice b lenb capb]] w fun e w' => e = .returned (.bool true) ∧ Below w.heap.size w w' := by
  subst el em
  have HR := hide rl
  have HS := hide rm
  obtain ⟨r, hrr⟩ : ∃ r, r = (sbV (okB i0 i1 i2 i3 i4 i5 i6 i7 i8 t.data.toList l m) i0 i1 i2 i3 i4 i5 i6 i7 i8 t l m) := ⟨_, rfl⟩
  have hrl : r.length ≤ 1048576 := by rw [hrr]; exact sb_len i0 i1 i2 i3 i4 i5 i6 i7 i8 t l m
  obtain ⟨c0, hc0⟩ : ∃ c, c = sbC (okB i0 i1 i2 i3 i4 i5 i6 i7 i8 t.data.toList l m) := ⟨_, rfl⟩
  have HRR := hide hrr
  have HC0 := hide hc0
  have nc0 : (c0 != c0) = false := by simp
  obtain ⟨q, hq⟩ : ∃ q : Int, q = ((1 + r.length : Nat) : Int) := ⟨_, rfl⟩
  obtain ⟨p, hp⟩ : ∃ p : Int, p = ((1 + l.length * 2 + m.length : Nat) : Int) := ⟨_, rfl⟩
  have q0 : 0 < q := by omega
  have p0 : 0 < p := by omega
  have nq : (q != q) = false := by simp
  have HQ := hide hq
  have HPP := hide hp
  clear rl rm hrr hc0 hq hp
  have B0 := hide ((Below.refl w.heap.size w).alloc (Nat.le_refl _) (.cells #[.int .i64 i0, .int .i64 i1, .int .i64 i2, .int .i64 i3, .int .i64 i4, .int .i64 i5, .int .i64 i6, .int .i64 i7, .int .i64 i8, .string t, .slice a l.length cap, .slice b m.length capb] 25))
  have A0 := hide (Blk.new w #[.int .i64 i0, .int .i64 i1, .int .i64 i2, .int .i64 i3, .int .i64 i4, .int .i64 i5, .int .i64 i6, .int .i64 i7, .int .i64 i8, .string t, .slice a l.length cap, .slice b m.length capb] 25)
  go_enter Try.func3, Try.ntmps3
  go_wp2_with fail
  refine (szScr i0 i1 i2 i3 i4 i5 i6 i7 i8 t a l.length cap b capb m wt ml mm sm _ ((unhide HS).below (unhide B0))).mono ?_
  rintro e w1 ⟨x, rfl, hb1, hx⟩
  clear wt ml mm sm
  have B1 := hide ((unhide B0).trans (hb1.mono (unhide B0).size))
  have A1 := hide ((unhide A0).below hb1)
  clear hb1 A0 B0
  rcases hx with rfl | ⟨hx0, ht, hl, hm, hz⟩
  · go_wp2_with fail
    go_ret
    exact ⟨rfl, unhide B1⟩
  have HTS := hide ht
  have HL := hide hl
  have HM := hide hm
  have HZ := hide hz
  have KA := (unhide A1).S
  have hx3 : ¬ x < 0 := by omega
  clear ht hl hm hz
  go_wp2_with fail
  refine (toScr i0 i1 i2 i3 i4 i5 i6 i7 i8 t a cap l b capb m (unhide HL) (unhide HM) _ ((unhide HR).below (unhide B1)) ((unhide HS).below (unhide B1))).mono ?_
  rintro e w2 ⟨g2, h2, rfl, o2, p2, hb2⟩
  have B2 := hide ((unhide B1).trans (hb2.mono (unhide B1).size))
  have A2 := hide ((unhide A1).below hb2)
  have HO2 := hide (rowZ_at o2)
  have HP2 := hide (rowZ_at p2)
  clear o2 p2 hb2 KA A1 B1
  go_wp2_with fail
  refine (ssb i0 i1 i2 i3 i4 i5 i6 i7 i8 t _ _ l _ _ m (unhide HTS) (unhide HL) (unhide HM) (unhide HZ) (Nat.le_refl _) _ (unhide HO2) (unhide HP2)).mono ?_
  rintro e w3 ⟨aw, cw, rfl, hin3, hb3⟩
  rw [← unhide HRR, ← unhide HC0]
  rw [← unhide HRR] at hin3
  have HW3 := hide hin3
  have B3 := hide ((unhide B2).trans (hb3.mono (unhide B2).size))
  have A3 := hide ((unhide A2).below hb3)
  have z3 : w.heap.size < w3.heap.size := (unhide A3).lt
  have KA := (unhide A3).S
  clear hin3 hb3 HO2 HP2 A2
  go_wp2_with fail
  refine (toScr i0 i1 i2 i3 i4 i5 i6 i7 i8 t a cap l b capb m (unhide HL) (unhide HM) _ ((unhide HR).below (unhide B3)) ((unhide HS).below (unhide B3))).mono ?_
  rintro e w4 ⟨g4, h4, rfl, o4, p4, hb4⟩
  have hal := (Below.refl w4.heap.size w4).alloc (Nat.le_refl _) (.cells #[.int .i64 i0, .int .i64 i1, .int .i64 i2, .int .i64 i3, .int .i64 i4, .int .i64 i5, .int .i64 i6, .int .i64 i7, .int .i64 i8, .string t, .slice (some ⟨g4, 0, none⟩) l.length l.length, .slice (some ⟨h4, 0, none⟩) m.length m.length] 32)
  have B4 := hide (((unhide B3).trans (hb4.mono (unhide B3).size)).alloc (Nat.le_trans (unhide B3).size hb4.size) (.cells #[.int .i64 i0, .int .i64 i1, .int .i64 i2, .int .i64 i3, .int .i64 i4, .int .i64 i5, .int .i64 i6, .int .i64 i7, .int .i64 i8, .string t, .slice (some ⟨g4, 0, none⟩) l.length l.length, .slice (some ⟨h4, 0, none⟩) m.length m.length] 32))
  have A4 := hide (((unhide A3).below hb4).alloc (.cells #[.int .i64 i0, .int .i64 i1, .int .i64 i2, .int .i64 i3, .int .i64 i4, .int .i64 i5, .int .i64 i6, .int .i64 i7, .int .i64 i8, .string t, .slice (some ⟨g4, 0, none⟩) l.length l.length, .slice (some ⟨h4, 0, none⟩) m.length m.length] 32))
  have D4 := hide (Blk.new w4 #[.int .i64 i0, .int .i64 i1, .int .i64 i2, .int .i64 i3, .int .i64 i4, .int .i64 i5, .int .i64 i6, .int .i64 i7, .int .i64 i8, .string t, .slice (some ⟨g4, 0, none⟩) l.length l.length, .slice (some ⟨h4, 0, none⟩) m.length m.length] 32)
  have HW4 := hide (((unhide HW3).below hb4).below hal)
  have HX4 := hide ((heldZ_of o4).below hal (Nat.le_refl _))
  have HY4 := hide ((heldZ_of p4).below hal (Nat.le_refl _))
  have z34 : w3.heap.size ≤ w4.heap.size := hb4.size
  have HO4 := hide (rowZ_at (o4.alloc (.cells #[.int .i64 i0, .int .i64 i1, .int .i64 i2, .int .i64 i3, .int .i64 i4, .int .i64 i5, .int .i64 i6, .int .i64 i7, .int .i64 i8, .string t, .slice (some ⟨g4, 0, none⟩) l.length l.length, .slice (some ⟨h4, 0, none⟩) m.length m.length] 32)))
  have HP4 := hide (rowZ_at (p4.alloc (.cells #[.int .i64 i0, .int .i64 i1, .int .i64 i2, .int .i64 i3, .int .i64 i4, .int .i64 i5, .int .i64 i6, .int .i64 i7, .int .i64 i8, .string t, .slice (some ⟨g4, 0, none⟩) l.length l.length, .slice (some ⟨h4, 0, none⟩) m.length m.length] 32)))
  have KD := (unhide D4).S
  clear o4 p4 hb4 KA A3 HW3 hal
  go_wp2_with fail
  refine (isb i0 i1 i2 i3 i4 i5 i6 i7 i8 t _ _ l _ _ m (unhide HTS) (unhide HL) (unhide HM) (unhide HZ) (Nat.le_refl _) _ (unhide HO4) (unhide HP4)).mono ?_
  rintro e w5 ⟨vg, rfl, own5, hb5⟩
  rw [← unhide HC0]
  rw [← unhide HRR, show (w4.alloc (.cells #[.int .i64 i0, .int .i64 i1, .int .i64 i2, .int .i64 i3, .int .i64 i4, .int .i64 i5, .int .i64 i6, .int .i64 i7, .int .i64 i8, .string t, .slice (some ⟨g4, 0, none⟩) l.length l.length, .slice (some ⟨h4, 0, none⟩) m.length m.length] 32)).heap.size = w4.heap.size + 1 from by simp] at own5
  obtain ⟨ag, cg, rfl, -⟩ := own_rowV own5
  have HG5 := hide (held_of own5)
  have B5 := hide ((unhide B4).trans (hb5.mono (unhide B4).size))
  have A5 := hide ((unhide A4).below hb5)
  have D5 := hide ((unhide D4).below hb5)
  have HW5 := hide ((unhide HW4).below hb5)
  have HX5 := hide ((unhide HX4).below hb5 (unhide HX4).le)
  have HY5 := hide ((unhide HY4).below hb5 (unhide HY4).le)
  have HO5 := hide ((unhide HO4).below hb5)
  have HP5 := hide ((unhide HP4).below hb5)
  have z45 : w4.heap.size + 1 ≤ w5.heap.size := by have := hb5.size; simp at this; omega
  obtain ⟨hi5, hhi5⟩ : ∃ n, n = w5.heap.size := ⟨_, rfl⟩
  have zh : w4.heap.size + 1 ≤ hi5 := by omega
  rw [← hhi5] at HG5
  clear own5 hb5 KD A4 D4 HW4 HX4 HY4 HO4 HP4 B4 hhi5
  go_wp2_with fail
  refine (sameByte _ _ _ _ r hrl _ (unhide HG5).rowV (unhide HW5).row).mono ?_
  rintro e w6 ⟨rfl, hb6⟩
  have B6 := hide ((unhide B5).trans (hb6.mono (unhide B5).size))
  have A6 := hide ((unhide A5).below hb6)
  have D6 := hide ((unhide D5).below hb6)
  have HG6 := hide ((unhide HG5).below hb6 (unhide HG5).le)
  have HW6 := hide ((unhide HW5).below hb6)
  have HX6 := hide ((unhide HX5).below hb6 (unhide HX5).le)
  have HY6 := hide ((unhide HY5).below hb6 (unhide HY5).le)
  have HO6 := hide ((unhide HO5).below hb6)
  have HP6 := hide ((unhide HP5).below hb6)
  have K6 := And.intro (unhide A6).S (unhide D6).S
  clear hb6 A5 D5 HG5 HW5 HX5 HY5 HO5 HP5 B5
  go_wp2_with fail
  go_region_held3 (fun w' => (∀ o, w'.cell? ⟨w.heap.size, o, none⟩ = (#[.int .i64 i0, .int .i64 i1, .int .i64 i2, .int .i64 i3, .int .i64 i4, .int .i64 i5, .int .i64 i6, .int .i64 i7, .int .i64 i8, .string t, .slice a l.length cap, .slice b m.length capb] : Array Value)[o]?) ∧ (∀ o, w'.cell? ⟨w4.heap.size, o, none⟩ = (#[.int .i64 i0, .int .i64 i1, .int .i64 i2, .int .i64 i3, .int .i64 i4, .int .i64 i5, .int .i64 i6, .int .i64 i7, .int .i64 i8, .string t, .slice (some ⟨g4, 0, none⟩) l.length l.length, .slice (some ⟨h4, 0, none⟩) m.length m.length] : Array Value)[o]?)) (first | exact K6 | exact K7 | exact K8) (first | (go_at_call 6; refine (toScr i0 i1 i2 i3 i4 i5 i6 i7 i8 t a cap l b capb m (unhide HL) (unhide HM) _ ((unhide HR).below (unhide B6).drew) ((unhide HS).below (unhide B6).drew)).mono ?_; rintro e w7 ⟨g7, h7, rfl, o7, p7, hb7⟩; have B7 := hide ((unhide B6).drew.trans (hb7.mono (unhide B6).drew.size)); have A7 := hide ((unhide A6).drew.below hb7); have D7 := hide ((unhide D6).drew.below hb7); have K7 := And.intro (unhide A7).S (unhide D7).S; have HO7 := hide (rowZ_at o7); have HP7 := hide (rowZ_at p7); have HU7 := hide ((unhide HO6).below (below_undrew hb7)); have HV7 := hide ((unhide HP6).below (below_undrew hb7)); have HT7 := hide (below_undrew hb7); clear o7 p7 hb7) | (go_at_call 9; refine (eqScr i0 i1 i2 i3 i4 i5 i6 i7 i8 t _ _ _ _ l _ _ _ _ m (unhide HL) (unhide HM) _ (unhide HU7) (unhide HO7) (unhide HV7) (unhide HP7)).mono ?_; rintro e w8 ⟨rfl, hb8⟩; have B8' := hide ((unhide B7).trans (hb8.mono (unhide B7).size)); have A8 := hide ((unhide A7).below hb8); have D8 := hide ((unhide D7).below hb8); have K8 := And.intro (unhide A8).S (unhide D8).S; have HT8 := hide ((unhide HT7).trans (hb8.mono (unhide HT7).size)); clear hb8))
  have HG8 := hide ((unhide HG6).below (unhide HT8) (unhide HG6).le)
  have HW8 := hide ((unhide HW6).below (unhide HT8))
  have HX8 := hide ((unhide HX6).below (unhide HT8) (unhide HX6).le)
  have HY8 := hide ((unhide HY6).below (unhide HT8) (unhide HY6).le)
  have KD := K8.2
  clear K6 K7 K8 A6 A7 D6 D7 HG6 HW6 HX6 HY6 HO6 HP6 HO7 HP7 HU7 HV7 HT7 HT8 B6 B7
  go_wp2_with fail
  refine (markScr2 i0 i1 i2 i3 i4 i5 i6 i7 i8 t _ _ l.length m.length w3.heap.size w4.heap.size p _ _ (unhide HPP) (unhide HL) (unhide HM) _ (unhide HX8) (unhide HY8)).mono ?_
  rintro e w9 ⟨rfl, -, -, hs9⟩
  have HG9 := hide (heldZ_1 ((held_Z (unhide HG8)).spared hs9 (.inr (Nat.le_succ _))))
  have HW9 := hide ((unhide HW8).spared hs9 (.inl (Nat.le_refl _)))
  have B9 := hide ((unhide B8').trans (hs9.below (Nat.le_of_lt z3) (unhide B8').size))
  have A9 : Hid (Blk w.heap.size #[.int .i64 i0, .int .i64 i1, .int .i64 i2, .int .i64 i3, .int .i64 i4, .int .i64 i5, .int .i64 i6, .int .i64 i7, .int .i64 i8, .string t, .slice a l.length cap, .slice b m.length capb] w9) := ⟨fun o => (World.cell?_of_block (hs9.block w.heap.size (unhide A8).lt (.inl z3))).trans ((unhide A8).S o), Nat.lt_of_lt_of_le (unhide A8).lt hs9.size⟩
  clear hs9 KD HG8 HW8 HX8 HY8 A8 D8 B8'
  go_wp2_with fail
  refine (sameByte _ _ _ _ r hrl _ (unhide HG9).rowV (unhide HW9).row).mono ?_
  rintro e w10 ⟨rfl, hb10⟩
  have HG10 := hide ((unhide HG9).below hb10 (unhide HG9).le)
  have HW10 := hide ((unhide HW9).below hb10)
  have B10 := hide ((unhide B9).trans (hb10.mono (unhide B9).size))
  have A10 := hide ((unhide A9).below hb10)
  clear hb10 HG9 HW9 A9 B9
  go_wp2_with fail
  refine (markByte1 _ r.length (w4.heap.size + 1) hi5 q (B8 r) (unhide HQ) (Nat.le_trans hrl (by decide)) _ (unhide HG10)).mono ?_
  rintro e w11 ⟨rfl, hh11, hg11⟩
  have HG11 := hide hh11
  have HW11 := hide ((unhide HW10).grown hg11 (fun k hk => .inl (by have := ((unhide HG10).blk k hk).1; omega)))
  have B11 := hide (Below.marked (unhide B10) (unhide B10).size (unhide HG10) (by omega) hg11)
  have A11 : Hid (Blk w.heap.size #[.int .i64 i0, .int .i64 i1, .int .i64 i2, .int .i64 i3, .int .i64 i4, .int .i64 i5, .int .i64 i6, .int .i64 i7, .int .i64 i8, .string t, .slice a l.length cap, .slice b m.length capb] w11) := ⟨fun o => (World.cell?_of_block (hg11.block w.heap.size (unhide A10).lt (fun e => by have := ((unhide HG10).blk _ e.symm).1; omega))).trans ((unhide A10).S o), Nat.lt_of_lt_of_le (unhide A10).lt hg11.size⟩
  clear hh11 hg11 HG10 HW10 A10 B10
  go_wp2_with fail
  refine (heldByte1 _ r.length (w4.heap.size + 1) hi5 q (unhide HQ) (Nat.le_trans hrl (by decide)) _ (unhide HG11)).mono ?_
  rintro e w12 ⟨rfl, hb12⟩
  have HG12 := hide ((unhide HG11).below hb12 (unhide HG11).le)
  have HW12 := hide ((unhide HW11).below hb12)
  have B12 := hide ((unhide B11).trans (hb12.mono (unhide B11).size))
  have A12 := hide ((unhide A11).below hb12)
  have KA := (unhide A12).S
  clear hb12 HG11 HW11 A11 B11
  go_wp2_with fail
  refine (toScr i0 i1 i2 i3 i4 i5 i6 i7 i8 t a cap l b capb m (unhide HL) (unhide HM) _ ((unhide HR).below (unhide B12)) ((unhide HS).below (unhide B12))).mono ?_
  rintro e w13 ⟨g13, h13, rfl, o13, p13, hb13⟩
  have HO13 := hide (rowZ_at o13)
  have HP13 := hide (rowZ_at p13)
  have HG13 := hide ((unhide HG12).below hb13 (unhide HG12).le)
  have HW13 := hide ((unhide HW12).below hb13)
  have B13 := hide ((unhide B12).trans (hb13.mono (unhide B12).size))
  clear o13 p13 hb13 HG12 HW12 A12 B12 KA
  go_wp2_with fail
  refine (isb i0 i1 i2 i3 i4 i5 i6 i7 i8 t _ _ l _ _ m (unhide HTS) (unhide HL) (unhide HM) (unhide HZ) (Nat.le_refl _) _ (unhide HO13) (unhide HP13)).mono ?_
  rintro e w14 ⟨vh, rfl, own14, hb14⟩
  rw [← unhide HC0]
  rw [← unhide HRR] at own14
  obtain ⟨ah, ch, rfl, -⟩ := own_rowV own14
  have HH14 := hide (row_at own14)
  have HG14 := hide ((unhide HG13).below hb14 (unhide HG13).le)
  have HW14 := hide ((unhide HW13).below hb14)
  have B14 := hide ((unhide B13).trans (hb14.mono (unhide B13).size))
  clear own14 hb14 HG13 HW13 HO13 HP13 B13
  go_wp2_with fail
  refine (sameByte _ _ _ _ r hrl _ (unhide HH14) (unhide HW14).row).mono ?_
  rintro e w15 ⟨rfl, hb15⟩
  have HG15 := hide ((unhide HG14).below hb15 (unhide HG14).le)
  have B15 := hide ((unhide B14).trans (hb15.mono (unhide B14).size))
  clear hb15 HG14 HW14 HH14 B14
  go_wp2_with fail
  refine (heldByte1 _ r.length (w4.heap.size + 1) hi5 q (unhide HQ) (Nat.le_trans hrl (by decide)) _ (unhide HG15)).mono ?_
  rintro e w16 ⟨rfl, hb16⟩
  have B16 := hide ((unhide B15).trans (hb16.mono (unhide B15).size))
  clear hb16 HG15
  go_wp2_with fail
  go_ret
  exact ⟨rfl, unhide B16⟩

set_option maxRecDepth 100000 in
theorem lifted (os : Os) (started : os.Started) (H : Type) (enc : TypeId × Value → H) :
    ReturnsInHanded {} Try.checked os 3 .any (Rows.fnExactScreenBytesSpec.pre6 enc Try.prog Try.f3 Rows.fnExactScreenBytesRow.domain false) (Rows.fnExactScreenBytesSpec.post enc Try.prog Try.f3 false true false false) := by
  refine returnsInHanded_of_change (C := Try.checked) own started (by kernel_rfl) Try.func3
    (ChangeSpec.witness6 (enc := enc) (C := Try.checked) false ⟨#[], #[.agg #[.int .i64 0, .int .i64 0, .int .i64 0, .int .i64 0, .int .i64 0, .int .i64 0, .int .i64 0, .int .i64 0, .int .i64 0, .string ⟨#[]⟩, .slice none 0 0, .slice none 0 0]], []⟩ 8 (by kernel_rfl) (by kernel_rfl) (by kernel_rfl) (by kernel_rfl)) ?_
  intro W base args ds gs before hval0 hW hcnd _
  have hval : ∀ (j : Nat) t v, Try.f3.params[j]? = some t → args[j]? = some v → Value.okWide Try.prog W .any base t v := hval0
  have hW' := hW
  obtain ⟨p, q, hA0, hV, rfl, hfz, hnd⟩ := hW
  have hA : DataW.TrodAll enc Try.prog W 0 (fun _ => true) true Try.f3.params.toList args.toList ds p := hA0
  rw [Try.params3] at hA hval
  obtain ⟨v0, vs0, d0, ds0, p0, q0, hargs, rfl, rfl, h0, r0⟩ := trodAll_cons hA
  obtain ⟨rfl, rfl, rfl⟩ := trodAll_nil r0
  obtain rfl : args = #[v0] := by cases args; simp_all
  obtain ⟨rfl, rfl⟩ := trodVars_none hV
  have k0 := h0
  have lt0 : ∀ x ∈ p0, x.block < W.heap.size := by obtain ⟨m, hm⟩ := k0; exact DataW.trod_lt m _ _ _ hm
  obtain ⟨c0_0, c0_1, c0_2, c0_3, c0_4, c0_5, c0_6, c0_7, c0_8, c0_9, c0_10, c0_11, u0_0, u0_1, u0_2, u0_3, u0_4, u0_5, u0_6, u0_7, u0_8, u0_9, u0_10, u0_11, n0, rfl, z0_0, z0_1, z0_2, z0_3, z0_4, z0_5, z0_6, z0_7, z0_8, z0_9, z0_10, z0_11⟩ := open_agg12 Try.underlying25 (by kernel_rfl) (by kernel_rfl) (hval 0 25 v0 rfl rfl) h0
  obtain ⟨i0, e0_0, -, -⟩ := DataW.trod_int Try.underlying3 z0_0
  obtain rfl : c0_0 = .int .i64 i0 := by simpa using e0_0
  obtain ⟨i1, e0_1, -, -⟩ := DataW.trod_int Try.underlying3 z0_1
  obtain rfl : c0_1 = .int .i64 i1 := by simpa using e0_1
  obtain ⟨i2, e0_2, -, -⟩ := DataW.trod_int Try.underlying3 z0_2
  obtain rfl : c0_2 = .int .i64 i2 := by simpa using e0_2
  obtain ⟨i3, e0_3, -, -⟩ := DataW.trod_int Try.underlying3 z0_3
  obtain rfl : c0_3 = .int .i64 i3 := by simpa using e0_3
  obtain ⟨i4, e0_4, -, -⟩ := DataW.trod_int Try.underlying3 z0_4
  obtain rfl : c0_4 = .int .i64 i4 := by simpa using e0_4
  obtain ⟨i5, e0_5, -, -⟩ := DataW.trod_int Try.underlying3 z0_5
  obtain rfl : c0_5 = .int .i64 i5 := by simpa using e0_5
  obtain ⟨i6, e0_6, -, -⟩ := DataW.trod_int Try.underlying3 z0_6
  obtain rfl : c0_6 = .int .i64 i6 := by simpa using e0_6
  obtain ⟨i7, e0_7, -, -⟩ := DataW.trod_int Try.underlying3 z0_7
  obtain rfl : c0_7 = .int .i64 i7 := by simpa using e0_7
  obtain ⟨i8, e0_8, -, -⟩ := DataW.trod_int Try.underlying3 z0_8
  obtain rfl : c0_8 = .int .i64 i8 := by simpa using e0_8
  obtain ⟨t, e0_9, -, wt⟩ := DataW.trod_string Try.underlying9 z0_9
  obtain rfl : c0_9 = .string t := by simpa using e0_9
  obtain ⟨a, len, cap, l, rfl, el, ml, rl⟩ := pairs_field Try.underlying22 Try.underlying61 (by kernel_rfl) rfl rfl (by kernel_rfl) (by kernel_rfl) Try.underlying3 Try.underlying3 z0_10
  obtain ⟨b, lenb, capb, m, rfl, em, mm, sm, rm⟩ := strs_field Try.underlying23 Try.underlying9 (by kernel_rfl) z0_11
  clear hA0 hval0
  refine (walk W i0 i1 i2 i3 i4 i5 i6 i7 i8 t wt a len cap l el ml rl b lenb capb m em mm sm rm).mono fun e W' ⟨he, bel⟩ => ?_
  subst he
  exact ⟨_, rfl, _, _, _, [], _, [], hW', trodAll_mk1 (shut_bool Try.underlying4 _), (trodAll_cons_mk (Below.trod laidOut (by kernel_rfl) (of_decide_eq_true (by kernel_rfl)) k0 bel lt0) trodAll_mk0), rfl, bel.frame _, fun h => by cases h⟩

theorem over : Rows.fnExactScreenBytesRow.holds Try.pinned (OpenSpec.ofChange Rows.fnExactScreenBytesSpec) :=
  OpenClaim.holds_of_wide 3 Try.f3 rfl rfl rfl rfl rfl rfl rfl ⟨rfl, rfl, rfl, rfl, rfl⟩ rfl rfl rfl rfl rfl (by kernel_rfl) Try.func3 (by kernel_rfl)
    (of_decide_eq_true (by kernel_rfl)) (by unfold Func.isWrapper; first | (rw [if_pos (by decide +kernel)]; kernel_rfl) | (rw [if_neg (by decide +kernel)]; exact ⟨rfl, rfl⟩))
    (fun os started H enc _ => lifted os started H enc)

theorem proved : Rows.FnExactScreenBytesSaid := over
#print axioms proved
end Go.Proofs.Ytokfmcajikmhmaa
