/- At every argument that can be read, the law FnExactRowCells returns true and leaves its arguments as they were: no condition. -/
import Derived.Test.YtmgbhpfgfhlkeaaRowAll
import Derived.Test.YtmgbhpfgfhlkeaaAgg12
import Derived.WalkKit
import Derived.ProofKit
import Derived.OpenShut
import Derived.ShutString
import Derived.ChangeOld
import Derived.Below
import Derived.Deep.Strs
namespace Go.Proofs.Ytmgbhpfgfhlkeaa
open Go.ChangeShapes Go.WideShapes Go.ChangeAt Go.RowKit
set_option linter.unusedVariables false

theorem own : ownKnob Try.prog.godebug = none := by kernel_rfl
theorem laidOut : laidOutB Try.prog = true := by kernel_rfl
set_option maxHeartbeats 4000000 in
set_option maxRecDepth 100000 in
theorem walk (w : World) (i0 i1 i2 i3 i4 i5 i6 i7 i8 : Int) (t : ByteArray) (wt : t.size ≤ maxLen) (a : Option Addr) (len cap : Nat) (l : List (Int × Int)) (el : l.length = len) (ml : len ≤ maxLen) (rl : RowV w a (cP l)) (b : Option Addr) (lenb capb : Nat) (m : List ByteArray) (em : m.length = lenb) (mm : lenb ≤ maxLen) (sm : ∀ k (h : k < m.length), m[k].size ≤ maxLen) (rm : RowV w b (cS m)) (x1 : Int) (y1 : (Lit.int .i64 x1).wf = true) :
    Calls Try.prog 3 #[.agg #[.int .i64 i0, .int .i64 i1, .int .i64 i2, .int .i64 i3, .int .i64 i4, .int .i64 i5, .int .i64 i6, .int .i64 i7, .int .i64 i8, .string t, .slice a len cap, .slice b lenb capb], .int .i64 x1] w fun e w' => e = .returned (.bool true) ∧ Below w.heap.size w w' := by
  subst el em
  have HR := hide rl
  have HS := hide rm
  obtain ⟨v0, hv0⟩ : ∃ v, v = rcV (okB i0 i1 i2 i3 i4 i5 i6 i7 i8 t.data.toList l m) i0 i1 l x1 := ⟨_, rfl⟩
  have HV0 := hide hv0
  have nv0 : (v0.toList != v0.toList) = false := by simp
  clear hv0
  obtain ⟨v1, hv1⟩ : ∃ v, v = rcC (okB i0 i1 i2 i3 i4 i5 i6 i7 i8 t.data.toList l m) i1 x1 := ⟨_, rfl⟩
  have HV1 := hide hv1
  have nv1 : (v1 != v1) = false := by simp
  clear hv1
  clear rl rm
  have B0 := hide ((Below.refl w.heap.size w).alloc (Nat.le_refl _) (.cells #[.int .i64 i0, .int .i64 i1, .int .i64 i2, .int .i64 i3, .int .i64 i4, .int .i64 i5, .int .i64 i6, .int .i64 i7, .int .i64 i8, .string t, .slice a l.length cap, .slice b m.length capb] 25))
  go_enter Try.func3, Try.ntmps3
  go_wp2_with fail
  refine (szScr i0 i1 i2 i3 i4 i5 i6 i7 i8 t a l.length cap b capb m wt ml mm sm _ ((unhide HS).below (unhide B0))).mono ?_
  rintro e w1 ⟨x, rfl, hb1, hx⟩
  clear wt ml mm sm
  have B1 := hide ((unhide B0).trans (hb1.mono (unhide B0).size))
  rcases hx with rfl | ⟨hx0, ht, hl, hm, hz⟩
  · clear hb1
    go_wp2_with fail
    go_ret
    exact ⟨rfl, unhide B1⟩
  have HTS := hide ht
  have HL := hide hl
  have HM := hide hm
  have HZ := hide hz
  have KA : ∀ o, w1.cell? ⟨w.heap.size, o, none⟩ = (#[.int .i64 i0, .int .i64 i1, .int .i64 i2, .int .i64 i3, .int .i64 i4, .int .i64 i5, .int .i64 i6, .int .i64 i7, .int .i64 i8, .string t, .slice a l.length cap, .slice b m.length capb] : Array Value)[o]? := fun o => (hb1.cell (p := ⟨w.heap.size, o, none⟩) (by simp)).trans (World.cell?_alloc_mark w _ _ _ o)
  have z1 : w.heap.size < w1.heap.size := by have := hb1.size; simp at this; omega
  have HKA := hide KA
  have hx3 : ¬ x < 0 := by omega
  clear hb1 ht hl hm hz
  go_wp2_with fail
  refine (toScr i0 i1 i2 i3 i4 i5 i6 i7 i8 t a cap l b capb m (unhide HL) (unhide HM) _ ((unhide HR).below (unhide B1)) ((unhide HS).below (unhide B1))).mono ?_
  rintro e w2 ⟨g2, h2, rfl, o2, p2, hb2⟩
  have B2 := hide ((unhide B1).trans (hb2.mono (unhide B1).size))
  have HKA2 := hide (fun o => (hb2.cell (p := ⟨w.heap.size, o, none⟩) z1).trans (unhide HKA o))
  have z2 : w.heap.size < w2.heap.size := Nat.lt_of_lt_of_le z1 hb2.size
  have HO2 := hide (rowZ_at o2)
  have HP2 := hide (rowZ_at p2)
  clear o2 p2 hb2 KA HKA z1
  go_wp2_with fail
  refine (src i0 i1 i2 i3 i4 i5 i6 i7 i8 t _ _ l _ _ m (unhide HTS) (unhide HL) (unhide HM) (unhide HZ) x1 (Nat.le_refl _) _ (unhide HO2) (unhide HP2)).mono ?_
  rintro e w3 ⟨rfl, hb3⟩
  rw [← unhide HV0, ← unhide HV1]
  have B3 := hide ((unhide B2).trans (hb3.mono (unhide B2).size))
  have HKA3 := hide (fun o => (hb3.cell (p := ⟨w.heap.size, o, none⟩) z2).trans (unhide HKA2 o))
  have z3 : w.heap.size < w3.heap.size := Nat.lt_of_lt_of_le z2 hb3.size
  clear hb3 HO2 HP2 HKA2 z2
  have KA := unhide HKA3
  go_wp2_with fail
  refine (toScr i0 i1 i2 i3 i4 i5 i6 i7 i8 t a cap l b capb m (unhide HL) (unhide HM) _ ((unhide HR).below (unhide B3)) ((unhide HS).below (unhide B3))).mono ?_
  rintro e w4 ⟨g4, h4, rfl, o4, p4, hb4⟩
  have B4 := hide (((unhide B3).trans (hb4.mono (unhide B3).size)).alloc (Nat.le_trans (unhide B3).size hb4.size) (.cells #[.int .i64 i0, .int .i64 i1, .int .i64 i2, .int .i64 i3, .int .i64 i4, .int .i64 i5, .int .i64 i6, .int .i64 i7, .int .i64 i8, .string t, .slice (some ⟨g4, 0, none⟩) l.length l.length, .slice (some ⟨h4, 0, none⟩) m.length m.length] 31))
  have HKA4 := hide (fun o => (((Below.refl w4.heap.size w4).alloc (Nat.le_refl _) (.cells #[.int .i64 i0, .int .i64 i1, .int .i64 i2, .int .i64 i3, .int .i64 i4, .int .i64 i5, .int .i64 i6, .int .i64 i7, .int .i64 i8, .string t, .slice (some ⟨g4, 0, none⟩) l.length l.length, .slice (some ⟨h4, 0, none⟩) m.length m.length] 31)).cell (p := ⟨w.heap.size, o, none⟩) (Nat.lt_of_lt_of_le z3 hb4.size)).trans ((hb4.cell (p := ⟨w.heap.size, o, none⟩) z3).trans (unhide HKA3 o)))
  have HKX4 := hide (fun o => World.cell?_alloc_mark w4 (#[.int .i64 i0, .int .i64 i1, .int .i64 i2, .int .i64 i3, .int .i64 i4, .int .i64 i5, .int .i64 i6, .int .i64 i7, .int .i64 i8, .string t, .slice (some ⟨g4, 0, none⟩) l.length l.length, .slice (some ⟨h4, 0, none⟩) m.length m.length] : Array Value) 31 (0, 0) o)
  have HO4 := hide (rowZ_at (o4.alloc (.cells #[.int .i64 i0, .int .i64 i1, .int .i64 i2, .int .i64 i3, .int .i64 i4, .int .i64 i5, .int .i64 i6, .int .i64 i7, .int .i64 i8, .string t, .slice (some ⟨g4, 0, none⟩) l.length l.length, .slice (some ⟨h4, 0, none⟩) m.length m.length] 31)))
  have HP4 := hide (rowZ_at (p4.alloc (.cells #[.int .i64 i0, .int .i64 i1, .int .i64 i2, .int .i64 i3, .int .i64 i4, .int .i64 i5, .int .i64 i6, .int .i64 i7, .int .i64 i8, .string t, .slice (some ⟨g4, 0, none⟩) l.length l.length, .slice (some ⟨h4, 0, none⟩) m.length m.length] 31)))
  have z4 : w.heap.size < w4.heap.size := Nat.lt_of_lt_of_le z3 hb4.size
  clear o4 p4 hb4 HKA3 KA z3
  go_wp2_with fail
  refine (irc i0 i1 i2 i3 i4 i5 i6 i7 i8 t _ _ l _ _ m (unhide HTS) (unhide HL) (unhide HM) (unhide HZ) x1 (Nat.le_refl _) _ (unhide HO4) (unhide HP4)).mono ?_
  rintro e w5 ⟨rfl, hb5⟩
  rw [← unhide HV0, ← unhide HV1]
  have B5 := hide ((unhide B4).trans (hb5.mono (unhide B4).size))
  have KA : ∀ o, w5.cell? ⟨w.heap.size, o, none⟩ = (#[.int .i64 i0, .int .i64 i1, .int .i64 i2, .int .i64 i3, .int .i64 i4, .int .i64 i5, .int .i64 i6, .int .i64 i7, .int .i64 i8, .string t, .slice a l.length cap, .slice b m.length capb] : Array Value)[o]? := fun o => (hb5.cell (p := ⟨w.heap.size, o, none⟩) (by simp; omega)).trans (unhide HKA4 o)
  have KX : ∀ o, w5.cell? ⟨w4.heap.size, o, none⟩ = (#[.int .i64 i0, .int .i64 i1, .int .i64 i2, .int .i64 i3, .int .i64 i4, .int .i64 i5, .int .i64 i6, .int .i64 i7, .int .i64 i8, .string t, .slice (some ⟨g4, 0, none⟩) l.length l.length, .slice (some ⟨h4, 0, none⟩) m.length m.length] : Array Value)[o]? := fun o => (hb5.cell (p := ⟨w4.heap.size, o, none⟩) (by simp)).trans (unhide HKX4 o)
  have HO5 := hide ((unhide HO4).below hb5)
  have HP5 := hide ((unhide HP4).below hb5)
  have z5 : w.heap.size < w5.heap.size := by have := hb5.size; simp at this; omega
  have z6 : w4.heap.size < w5.heap.size := by have := hb5.size; simp at this; omega
  clear hb5 HO4 HP4 HKA4 HKX4 z4
  go_wp2_with fail
  go_region_held3 (fun w' => (∀ o, w'.cell? ⟨w.heap.size, o, none⟩ = (#[.int .i64 i0, .int .i64 i1, .int .i64 i2, .int .i64 i3, .int .i64 i4, .int .i64 i5, .int .i64 i6, .int .i64 i7, .int .i64 i8, .string t, .slice a l.length cap, .slice b m.length capb] : Array Value)[o]?) ∧ (∀ o, w'.cell? ⟨w4.heap.size, o, none⟩ = (#[.int .i64 i0, .int .i64 i1, .int .i64 i2, .int .i64 i3, .int .i64 i4, .int .i64 i5, .int .i64 i6, .int .i64 i7, .int .i64 i8, .string t, .slice (some ⟨g4, 0, none⟩) l.length l.length, .slice (some ⟨h4, 0, none⟩) m.length m.length] : Array Value)[o]?)) (first | exact ⟨KA, KX⟩ | exact K7 | exact K8) (first | (go_at_call 6; refine (toScr i0 i1 i2 i3 i4 i5 i6 i7 i8 t a cap l b capb m (unhide HL) (unhide HM) _ ((unhide HR).below (unhide B5).drew) ((unhide HS).below (unhide B5).drew)).mono ?_; rintro e w6 ⟨g6, h6, rfl, o6, p6, hb6⟩; have K7 : (∀ o, w6.cell? ⟨w.heap.size, o, none⟩ = (#[.int .i64 i0, .int .i64 i1, .int .i64 i2, .int .i64 i3, .int .i64 i4, .int .i64 i5, .int .i64 i6, .int .i64 i7, .int .i64 i8, .string t, .slice a l.length cap, .slice b m.length capb] : Array Value)[o]?) ∧ (∀ o, w6.cell? ⟨w4.heap.size, o, none⟩ = (#[.int .i64 i0, .int .i64 i1, .int .i64 i2, .int .i64 i3, .int .i64 i4, .int .i64 i5, .int .i64 i6, .int .i64 i7, .int .i64 i8, .string t, .slice (some ⟨g4, 0, none⟩) l.length l.length, .slice (some ⟨h4, 0, none⟩) m.length m.length] : Array Value)[o]?) := ⟨fun o => ((below_undrew hb6).cell (p := ⟨w.heap.size, o, none⟩) z5).trans (KA o), fun o => ((below_undrew hb6).cell (p := ⟨w4.heap.size, o, none⟩) z6).trans (KX o)⟩; have z7 : w5.heap.size ≤ w6.heap.size := (below_undrew hb6).size; have HO6 := hide (rowZ_at o6); have HP6 := hide (rowZ_at p6); have HX6 := hide ((unhide HO5).below (below_undrew hb6)); have HY6 := hide ((unhide HP5).below (below_undrew hb6)); have B6 := hide ((unhide B5).trans ((below_undrew hb6).mono (unhide B5).size)); clear o6 p6 hb6) | (go_at_call 8; refine (eqScr i0 i1 i2 i3 i4 i5 i6 i7 i8 t _ _ _ _ l _ _ _ _ m (unhide HL) (unhide HM) _ (unhide HX6) (unhide HO6) (unhide HY6) (unhide HP6)).mono ?_; rintro e w7 ⟨rfl, hb7⟩; have K8 : (∀ o, w7.cell? ⟨w.heap.size, o, none⟩ = (#[.int .i64 i0, .int .i64 i1, .int .i64 i2, .int .i64 i3, .int .i64 i4, .int .i64 i5, .int .i64 i6, .int .i64 i7, .int .i64 i8, .string t, .slice a l.length cap, .slice b m.length capb] : Array Value)[o]?) ∧ (∀ o, w7.cell? ⟨w4.heap.size, o, none⟩ = (#[.int .i64 i0, .int .i64 i1, .int .i64 i2, .int .i64 i3, .int .i64 i4, .int .i64 i5, .int .i64 i6, .int .i64 i7, .int .i64 i8, .string t, .slice (some ⟨g4, 0, none⟩) l.length l.length, .slice (some ⟨h4, 0, none⟩) m.length m.length] : Array Value)[o]?) := ⟨fun o => (hb7.cell (p := ⟨w.heap.size, o, none⟩) (Nat.lt_of_lt_of_le z5 z7)).trans (K7.1 o), fun o => (hb7.cell (p := ⟨w4.heap.size, o, none⟩) (Nat.lt_of_lt_of_le z6 z7)).trans (K7.2 o)⟩; have B7 := hide ((unhide B6).trans (hb7.mono (unhide B6).size)); clear hb7))
  go_wp2_with fail
  go_ret
  exact ⟨rfl, unhide B7⟩

set_option maxRecDepth 100000 in
theorem lifted (os : Os) (started : os.Started) (H : Type) (enc : TypeId × Value → H) :
    ReturnsInHanded {} Try.checked os 3 .any (Rows.fnExactRowCellsSpec.pre6 enc Try.prog Try.f3 Rows.fnExactRowCellsRow.domain false) (Rows.fnExactRowCellsSpec.post enc Try.prog Try.f3 false true false false) := by
  refine returnsInHanded_of_change (C := Try.checked) own started (by kernel_rfl) Try.func3
    (ChangeSpec.witness6 (enc := enc) (C := Try.checked) false ⟨#[], #[.agg #[.int .i64 0, .int .i64 0, .int .i64 0, .int .i64 0, .int .i64 0, .int .i64 0, .int .i64 0, .int .i64 0, .int .i64 0, .string ⟨#[]⟩, .slice none 0 0, .slice none 0 0], .int .i64 0], []⟩ 8 (by kernel_rfl) (by kernel_rfl) (by kernel_rfl) (by kernel_rfl)) ?_
  intro W base args ds gs before hval0 hW hcnd _
  have hval : ∀ (j : Nat) t v, Try.f3.params[j]? = some t → args[j]? = some v → Value.okWide Try.prog W .any base t v := hval0
  have hW' := hW
  obtain ⟨p, q, hA0, hV, rfl, hfz, hnd⟩ := hW
  have hA : DataW.TrodAll enc Try.prog W 0 (fun _ => true) true Try.f3.params.toList args.toList ds p := hA0
  rw [Try.params3] at hA hval
  obtain ⟨v0, vs0, d0, ds0, p0, q0, hargs, rfl, rfl, h0, r0⟩ := trodAll_cons hA
  obtain ⟨v1, vs1, d1, ds1, p1, q1, rfl, rfl, rfl, h1, r1⟩ := trodAll_cons r0
  obtain ⟨rfl, rfl, rfl⟩ := trodAll_nil r1
  obtain rfl : args = #[v0, v1] := by cases args; simp_all
  obtain ⟨rfl, rfl⟩ := trodVars_none hV
  have k0 := h0
  have lt0 : ∀ x ∈ p0, x.block < W.heap.size := by obtain ⟨m, hm⟩ := k0; exact DataW.trod_lt m _ _ _ hm
  have k1 := h1
  have lt1 : ∀ x ∈ p1, x.block < W.heap.size := by obtain ⟨m, hm⟩ := k1; exact DataW.trod_lt m _ _ _ hm
  obtain ⟨c0_0, c0_1, c0_2, c0_3, c0_4, c0_5, c0_6, c0_7, c0_8, c0_9, c0_10, c0_11, u0_0, u0_1, u0_2, u0_3, u0_4, u0_5, u0_6, u0_7, u0_8, u0_9, u0_10, u0_11, n0, rfl, z0_0, z0_1, z0_2, z0_3, z0_4, z0_5, z0_6, z0_7, z0_8, z0_9, z0_10, z0_11⟩ := open_agg12 Try.underlying25 (by kernel_rfl) (by kernel_rfl) (hval 0 25 v0 rfl rfl) h0
  obtain ⟨i0, e0_0, -, -⟩ := DataW.trod_int Try.underlying3 z0_0
  obtain rfl : c0_0 = .int .i64 i0 := by simpa using e0_0
  obtain ⟨i1, e0_1, -, -⟩ := DataW.trod_int Try.underlying3 z0_1
  obtain rfl : c0_1 = .int .i64 i1 := by simpa using e0_1
  obtain ⟨i2, e0_2, -, -⟩ := DataW.trod_int Try.underlying3 z0_2
  obtain rfl : c0_2 = .int .i64 i2 := by simpa using e0_2
  obtain ⟨i3, e0_3, -, -⟩ := DataW.trod_int Try.underlying3 z0_3
  obtain rfl : c0_3 = .int .i64 i3 := by simpa using e0_3
  obtain ⟨i4, e0_4, -, -⟩ := DataW.trod_int Try.underlying3 z0_4
  obtain rfl : c0_4 = .int .i64 i4 := by simpa using e0_4
  obtain ⟨i5, e0_5, -, -⟩ := DataW.trod_int Try.underlying3 z0_5
  obtain rfl : c0_5 = .int .i64 i5 := by simpa using e0_5
  obtain ⟨i6, e0_6, -, -⟩ := DataW.trod_int Try.underlying3 z0_6
  obtain rfl : c0_6 = .int .i64 i6 := by simpa using e0_6
  obtain ⟨i7, e0_7, -, -⟩ := DataW.trod_int Try.underlying3 z0_7
  obtain rfl : c0_7 = .int .i64 i7 := by simpa using e0_7
  obtain ⟨i8, e0_8, -, -⟩ := DataW.trod_int Try.underlying3 z0_8
  obtain rfl : c0_8 = .int .i64 i8 := by simpa using e0_8
  obtain ⟨t, e0_9, -, wt⟩ := DataW.trod_string Try.underlying9 z0_9
  obtain rfl : c0_9 = .string t := by simpa using e0_9
  obtain ⟨a, len, cap, l, rfl, el, ml, rl⟩ := pairs_field Try.underlying22 Try.underlying53 (by kernel_rfl) rfl rfl (by kernel_rfl) (by kernel_rfl) Try.underlying3 Try.underlying3 z0_10
  obtain ⟨b, lenb, capb, m, rfl, em, mm, sm, rm⟩ := strs_field Try.underlying23 Try.underlying9 (by kernel_rfl) z0_11
  obtain ⟨x1, rfl, rfl, rfl, y1⟩ := open_int Try.underlying3 (hval 1 3 v1 rfl rfl) h1
  clear hA0 hval0
  refine (walk W i0 i1 i2 i3 i4 i5 i6 i7 i8 t wt a len cap l el ml rl b lenb capb m em mm sm rm x1 y1).mono fun e W' ⟨he, bel⟩ => ?_
  subst he
  exact ⟨_, rfl, _, _, _, [], _, [], hW', trodAll_mk1 (shut_bool Try.underlying4 _), (trodAll_cons_mk (Below.trod laidOut (by kernel_rfl) (of_decide_eq_true (by kernel_rfl)) k0 bel lt0) (trodAll_cons_mk (Below.trod laidOut (by kernel_rfl) (of_decide_eq_true (by kernel_rfl)) k1 bel lt1) trodAll_mk0)), rfl, bel.frame _, fun h => by cases h⟩

theorem over : Rows.fnExactRowCellsRow.holds Try.pinned (OpenSpec.ofChange Rows.fnExactRowCellsSpec) :=
  OpenClaim.holds_of_wide 3 Try.f3 rfl rfl rfl rfl rfl rfl rfl ⟨rfl, rfl, rfl, rfl, rfl⟩ rfl rfl rfl rfl rfl (by kernel_rfl) Try.func3 (by kernel_rfl)
    (of_decide_eq_true (by kernel_rfl)) (by unfold Func.isWrapper; first | (rw [if_pos (by decide +kernel)]; kernel_rfl) | (rw [if_neg (by decide +kernel)]; exact ⟨rfl, rfl⟩))
    (fun os started H enc _ => lifted os started H enc)

theorem proved : Rows.FnExactRowCellsSaid := over
#print axioms proved
end Go.Proofs.Ytmgbhpfgfhlkeaa
