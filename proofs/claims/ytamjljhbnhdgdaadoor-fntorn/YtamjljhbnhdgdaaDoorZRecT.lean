/- Records between states: what the specification answers. -/
import Derived.Test.YtamjljhbnhdgdaaDoorZRecS
import Derived.Test.YtamjljhbnhdgdaaDoorZG24
import Derived.Test.YtamjljhbnhdgdaaDoorZG25
import Derived.Test.YtamjljhbnhdgdaaDoorZG7
import Derived.Deep.AppendLies
import Derived.Deep.Cut
import Derived.Lib.SmallJoins
namespace Go.Proofs.YtamjljhbnhdgdaaDoor
open Go.ChangeShapes Go.WideShapes Go.ChangeAt Go.RowKit
set_option linter.unusedVariables false
abbrev oRecT0 : Oper := { dst := some 62, op := .move (.tmp 5), type := 27, pos := "l07_store.go:45", after := #[], guard := none }
abbrev oRecT1 : Oper := { dst := some 63, op := .fieldAddr 25 (.tmp 3) 2, type := 0, pos := "l07_store.go:45", after := #[], guard := none }
abbrev oRecT2 : Oper := { dst := some 64, op := .load 23 (.tmp 63), type := 23, pos := "l07_store.go:45", after := #[{ on := 1, ground := .data }], guard := none }
abbrev oRecT3 : Oper := { dst := some 65, op := .move (.tmp 7), type := 3, pos := "l07_store.go:45", after := #[], guard := none }
abbrev oRecT4 : Oper := { dst := some 66, op := .indexAddr 23 (.tmp 64) (.tmp 65), type := 0, pos := "l07_store.go:45", after := #[{ on := 2, ground := .data }, { on := 3, ground := .data }], guard := none }
abbrev oRecT5 : Oper := { dst := some 67, op := .fieldAddr 62 (.tmp 66) 0, type := 0, pos := "l07_store.go:45", after := #[{ on := 4, ground := .data }], guard := none }
abbrev oRecT6 : Oper := { dst := some 68, op := .load 3 (.tmp 67), type := 3, pos := "l07_store.go:45", after := #[{ on := 5, ground := .data }], guard := none }
abbrev oRecT7 : Oper := { dst := some 72, op := .fieldAddr 25 (.tmp 3) 2, type := 0, pos := "l07_store.go:45", after := #[], guard := none }
abbrev oRecT8 : Oper := { dst := some 73, op := .load 23 (.tmp 72), type := 23, pos := "l07_store.go:45", after := #[{ on := 10, ground := .data }], guard := none }
abbrev oRecT9 : Oper := { dst := some 74, op := .move (.tmp 7), type := 3, pos := "l07_store.go:45", after := #[], guard := none }
abbrev oRecT10 : Oper := { dst := some 75, op := .indexAddr 23 (.tmp 73) (.tmp 74), type := 0, pos := "l07_store.go:45", after := #[{ on := 11, ground := .data }, { on := 12, ground := .data }], guard := none }
abbrev oRecT11 : Oper := { dst := some 76, op := .fieldAddr 62 (.tmp 75) 1, type := 0, pos := "l07_store.go:45", after := #[{ on := 13, ground := .data }], guard := none }
abbrev oRecT12 : Oper := { dst := some 77, op := .load 9 (.tmp 76), type := 9, pos := "l07_store.go:45", after := #[{ on := 14, ground := .data }], guard := none }
abbrev oRecT13 : Oper := { dst := some 69, op := .buildSlice 72 1 #[(0, .tmp 68)], type := 72, pos := "l07_store.go:45", after := #[{ on := 6, ground := .data }], guard := none }
abbrev oRecT14 : Oper := { dst := some 70, op := .call { callee := .value (.func 34), args := #[.tmp 69], argTypes := #[72] }, type := 22, pos := "l07_store.go:45", after := #[{ on := 7, ground := .data }], guard := none }
abbrev oRecT15 : Oper := { dst := some 71, op := .convert 22 9 (.tmp 70), type := 9, pos := "l07_store.go:45", after := #[{ on := 8, ground := .data }], guard := none }
abbrev oRecT16 : Oper := { dst := some 78, op := .buildSlice 27 3 #[(0, .const (.string { data := #[101] })), (1, .tmp 71), (2, .tmp 77)], type := 27, pos := "l07_store.go:45", after := #[{ on := 9, ground := .data }, { on := 15, ground := .data }], guard := none }
abbrev oRecT17 : Oper := { dst := some 79, op := .call { callee := .value (.func 33), args := #[.tmp 78], argTypes := #[27] }, type := 22, pos := "l07_store.go:45", after := #[{ on := 16, ground := .data }, { on := 8, ground := .chain }], guard := none }
abbrev oRecT18 : Oper := { dst := some 80, op := .convert 22 9 (.tmp 79), type := 9, pos := "l07_store.go:45", after := #[{ on := 17, ground := .data }], guard := none }
abbrev oRecT19 : Oper := { dst := some 81, op := .buildSlice 27 1 #[(0, .tmp 80)], type := 27, pos := "l07_store.go:45", after := #[{ on := 18, ground := .data }], guard := none }
abbrev oRecT20 : Oper := { dst := some 82, op := .call { callee := .builtin Go.Builtin.append, args := #[.tmp 62, .tmp 81], argTypes := #[27, 27] }, type := 27, pos := "l07_store.go:45", after := #[{ on := 0, ground := .data }, { on := 19, ground := .data }, { on := 17, ground := .chain }], guard := none }
abbrev oRecT21 : Oper := { dst := some 5, op := .assign (.tmp 82), type := 27, pos := "l07_store.go:45", after := #[{ on := 20, ground := .data }, { on := 20, ground := .chain }, { on := 0, ground := .phase }, { on := 1, ground := .phase }, { on := 2, ground := .phase }, { on := 3, ground := .phase }, { on := 4, ground := .phase }, { on := 5, ground := .phase }, { on := 6, ground := .phase }, { on := 7, ground := .phase }, { on := 8, ground := .phase }, { on := 9, ground := .phase }, { on := 10, ground := .phase }, { on := 11, ground := .phase }, { on := 12, ground := .phase }, { on := 13, ground := .phase }, { on := 14, ground := .phase }, { on := 15, ground := .phase }, { on := 16, ground := .phase }, { on := 17, ground := .phase }, { on := 18, ground := .phase }, { on := 19, ground := .phase }, { on := 20, ground := .phase }], guard := none }
set_option maxHeartbeats 1000000 in
set_option maxRecDepth 100000 in
theorem srecs_tn (tm vt : Int) (a : Option Addr) (cap n : Nat) (l : List Ent) (HN : Hid (l.length = n)) (hn : n ≤ 1048576) (HSZ : Hid (∀ k (h : k < l.length), l[k].2.size ≤ 1048576)) (tm2 vt2 : Int) (b2 o2 : Nat) (cap2 n2 : Nat) (m : List Ent) (HN2 : Hid (m.length = n2)) (hn2 : n2 ≤ 1048576) (HSZ2 : Hid (∀ k (h : k < m.length), m[k].2.size ≤ 1048576)) (HT : Hid (¬ tm = tm2)) (HCC : Hid (¬ comN l m < l.length)) (k1 : stateB tm vt l = true) (k2 : stateB tm2 vt2 m = true) (L : List ByteArray) (HL : Hid (L = recsL tm vt l tm2 vt2 m)) (w : World) (hr : RowV w a (cE l)) (hr2 : RowV w (some ⟨b2, o2, none⟩) (cE m)) :
  Calls Tryd.prog 17 #[.agg #[.int .i64 tm, .int .i64 vt, .slice a n cap], .agg #[.int .i64 tm2, .int .i64 vt2, .slice (some ⟨b2, o2, none⟩) n2 cap2]] w fun e w' => ∃ v, e = .returned v ∧ w'.ownsRow w.heap.size 9 1 v L.length (cS L) ∧ Below w.heap.size w w' := by
 obtain ⟨i0, hi, hz0, hz1, hz2⟩ := info_parts Tryd.infL9
 have HRW1 := hide hr
 have HRW2 := hide hr2
 have hp1 : n ≤ 60 := by have := (state_parts k1).2.2.1; rw [unhide HN] at this; exact this
 have hp2 : n2 ≤ 60 := by have := (state_parts k2).2.2.1; rw [unhide HN2] at this; exact this
 obtain ⟨t0, t1⟩ := (state_parts k2).1
 obtain ⟨v0, v1⟩ := (state_parts k2).2.1
 have HLOG := hide (state_parts k2).2.2.2
 have HCM := hide (cE_len m)
 obtain ⟨K, hK⟩ : ∃ K, comN l m = K := ⟨_, rfl⟩
 have hkl : K ≤ n ∧ K ≤ n2 := by rw [← unhide HN, ← unhide HN2, ← hK]; exact comN_le l m
 obtain ⟨hk1, hk2⟩ := hkl
 have HK := hide hK
 have hkn : ¬ (K : Int) < (n : Int) := by have := unhide HCC; rw [hK, unhide HN] at this; omega
 have hkd : decide (K < n) = false := decide_eq_false (by omega)
 clear hr hr2 k1 k2 hK
 have B_1 := hide (Go.Joins.below_alloc3 w (.cells #[.int .i64 tm, .int .i64 vt, .slice a n cap] 25) (.cells #[.int .i64 tm2, .int .i64 vt2, .slice (some ⟨b2, o2, none⟩) n2 cap2] 25) (.cells #[] 9))
 have A_2 := hide (((BF.new w #[.int .i64 tm, .int .i64 vt, .slice a n cap] 25).alloc (.cells #[.int .i64 tm2, .int .i64 vt2, .slice (some ⟨b2, o2, none⟩) n2 cap2] 25)).alloc (.cells #[] 9))
 have C_3 := hide ((BF.new (w.alloc (.cells #[.int .i64 tm, .int .i64 vt, .slice a n cap] 25)) #[.int .i64 tm2, .int .i64 vt2, .slice (some ⟨b2, o2, none⟩) n2 cap2] 25).alloc (.cells #[] 9))
 rw [show (w.alloc (.cells #[.int .i64 tm, .int .i64 vt, .slice a n cap] 25)).heap.size = w.heap.size + 1 from by simp] at C_3
 have O_4 := hide (unhide (own_as (P := ([] : List ByteArray)) (lit_emptyR ((w.alloc (.cells #[.int .i64 tm, .int .i64 vt, .slice a n cap] 25)).alloc (.cells #[.int .i64 tm2, .int .i64 vt2, .slice (some ⟨b2, o2, none⟩) n2 cap2] 25)) 9 (w.heap.size + 2) (by simp)) rfl rfl))
 simp only [World.size_alloc] at O_4
 obtain ⟨w2, hw2⟩ : ∃ w2, w2 = ((w.alloc (.cells #[.int .i64 tm, .int .i64 vt, .slice a n cap] 25)).alloc (.cells #[.int .i64 tm2, .int .i64 vt2, .slice (some ⟨b2, o2, none⟩) n2 cap2] 25)).alloc (.cells #[] 9) := ⟨_, rfl⟩
 have ht1 : (tm != tm2) = true := by simpa using unhide HT
 go_enter Tryd.func17, Tryd.ntmps17
 go_upto_region 2 with fail
 rw [← hw2] at B_1 A_2 C_3 O_4 ⊢
 clear hw2
 have HNI : Hid (RowV (w2.alloc (.cells #[.int .i64 tm2, .int .i64 vt2] 3)) (some ⟨w2.heap.size, 0, none⟩) (cI [tm2, vt2])) := rowZ_at (z := 1) (base := w2.heap.size) (n := 2) (cap := 2) (World.ownsRow_lit (e := 3) (base := w2.heap.size) (size := 1) w2 #[.int .i64 tm2, .int .i64 vt2] 2 (Nat.le_refl _) (by unfold maxLen; omega) rfl)
 have kA := (unhide A_2).S
 have kC := (unhide C_3).S
 have B_5 := hide ((unhide B_1).alloc (unhide B_1).size (.cells #[.int .i64 tm2, .int .i64 vt2] 3))
 clear B_1
 have A_6 := hide ((unhide A_2).alloc (.cells #[.int .i64 tm2, .int .i64 vt2] 3))
 clear A_2
 have C_7 := hide ((unhide C_3).alloc (.cells #[.int .i64 tm2, .int .i64 vt2] 3))
 clear C_3
 have O_8 := hide ((unhide O_4).alloc (.cells #[.int .i64 tm2, .int .i64 vt2] 3))
 clear O_4
 go_wp2_with fail
 refine (snums _ 2 [tm2, vt2] (by simp) (fit2 (by omega) (by omega) (by omega) (by omega)) _ (unhide HNI)).mono ?_
 rintro e w3 ⟨vn, rfl, hon, hb⟩
 clear kA kC
 have hcv := conv_own (P := Tryd.prog) Tryd.underlying22 Tryd.underlying5 Tryd.underlying9 hon
 obtain ⟨an, cn, rfl, -⟩ := own_rowV hon
 clear hon
 have B_9 := hide ((unhide B_5).trans (hb.mono (unhide B_5).size))
 clear B_5
 have A_10 := hide ((unhide A_6).below hb)
 clear A_6
 have C_11 := hide ((unhide C_7).below hb)
 clear C_7
 have O_12 := hide (((heldZ_of (unhide O_8)).below hb (Nat.le_refl _)).own)
 clear O_8
 clear hb
 clear HNI
 obtain ⟨N1, hN1⟩ : ∃ N1, N1 = recN [tm2, vt2] := ⟨_, rfl⟩
 have HN1 := hide hN1
 have HFS : Hid (∀ x ∈ ([⟨#[116]⟩, N1] : List ByteArray), x.size ≤ 400) := by rw [hN1]; exact f_t _ _
 rw [show (⟨(numsL [tm2, vt2]).toArray⟩ : ByteArray) = N1 from hN1.symm] at hcv
 clear hN1
 have HNS : Hid (RowV (w3.alloc (.cells #[.string ⟨#[116]⟩, .string N1] 9)) (some ⟨w3.heap.size, 0, none⟩) (cS [⟨#[116]⟩, N1])) := rowZ_at (z := 1) (base := w3.heap.size) (n := 2) (cap := 2) (World.ownsRow_lit (e := 9) (base := w3.heap.size) (size := 1) w3 #[.string ⟨#[116]⟩, .string N1] 2 (Nat.le_refl _) (by unfold maxLen; omega) rfl)
 have B_13 := hide ((unhide B_9).alloc (unhide B_9).size (.cells #[.string ⟨#[116]⟩, .string N1] 9))
 clear B_9
 have A_14 := hide ((unhide A_10).alloc (.cells #[.string ⟨#[116]⟩, .string N1] 9))
 clear A_10
 have C_15 := hide ((unhide C_11).alloc (.cells #[.string ⟨#[116]⟩, .string N1] 9))
 clear C_11
 have O_16 := hide ((unhide O_12).alloc (.cells #[.string ⟨#[116]⟩, .string N1] 9))
 clear O_12
 go_wp2_with fail
 obtain ⟨LX, hLX⟩ : ∃ LX, be [⟨#[116]⟩, N1].length 1 ++ fieldsL [⟨#[116]⟩, N1] = LX := ⟨_, rfl⟩
 have T2 := hide (sfields24 _ 2 [⟨#[116]⟩, N1] (by simp) (short_of (unhide HFS) (by decide)) (fsum_of (n := 3) (unhide HFS) (by simp) (by decide)) _ (unhide HNS))
 rw [hLX] at T2
 have HLX := hide hLX
 clear hLX
 refine (unhide T2).mono ?_
 rintro e w4 ⟨vn, rfl, hon, hb⟩
 clear hcv
 have hcv := conv_own (P := Tryd.prog) Tryd.underlying22 Tryd.underlying5 Tryd.underlying9 hon
 obtain ⟨am, cm, rfl, -⟩ := own_rowV hon
 clear hon
 have B_17 := hide ((unhide B_13).trans (hb.mono (unhide B_13).size))
 clear B_13
 have A_18 := hide ((unhide A_14).below hb)
 clear A_14
 have C_19 := hide ((unhide C_15).below hb)
 clear C_15
 have O_20 := hide (((heldZ_of (unhide O_16)).below hb (Nat.le_refl _)).own)
 clear O_16
 clear hb
 clear HNS HFS T2
 obtain ⟨X, hX⟩ : ∃ X, X = (⟨LX.toArray⟩ : ByteArray) := ⟨_, rfl⟩
 rw [← hX] at hcv
 have HX : Hid (X = tRec tm2 vt2) := by show _ = _; rw [hX, ← unhide HLX, unhide HN1]; rfl
 clear hX HN1 HLX
 have hown := (unhide O_20)
 have hzb := (unhide B_17).size
 have hzc := (unhide C_19).lt
 go_wp2_with (at_builtin; clear hcv; refine wpList_append_lies _ rfl (.tmp 21) (.tmp 32) 27 rfl (w.heap.size + 2) 9 i0 (.string ⟨#[]⟩) 1 16 Tryd.underlying27 hi hz0 hz1 hz2 rfl (by decide) _ _ _ rfl (hown.alloc _) ⟨w4.heap.size, 0, none⟩ 1 1 (cS [X]) rfl rfl (by exact news_new w4 (cS [X]) 9) (cS_one _) (by decide) (by unfold maxLen; simp; try omega) (by simp; try omega) (by simp; omega) _ rfl ?_; intro g2 c2 w5 hown2 hgrow2 hat2 hlt2; have B_21 := hide (below_app (unhide B_17) (unhide B_17).size hown (by omega) hgrow2); have A_22 := hide (((unhide A_18).alloc _).grown hgrow2 (fun h => by have := (hown.lt _ h).1; omega)); have C_23 := hide (((unhide C_19).alloc _).grown hgrow2 (fun h => by have := (hown.lt _ h).1; omega)); have O_24 := hide (own_appR (l := ([] : List ByteArray)) (m := [X]) hown2 rfl); clear hown2 hgrow2 hat2 hlt2 hown hzb hzc B_17 A_18 C_19 O_20; have kA := (unhide A_22).S; have kC := (unhide C_23).S)
 rw [unhide HX] at O_24
 clear HX
 refine (scommon a (some ⟨b2, o2, none⟩) cap cap2 n n2 l m HN HN2 hp1 hp2 K HK _ ((unhide HRW1).below (unhide B_21)) ((unhide HRW2).below (unhide B_21))).mono ?_
 rintro e w6 ⟨rfl, hb⟩
 clear kA kC
 have B_25 := hide ((unhide B_21).trans (hb.mono (unhide B_21).size))
 clear B_21
 have A_26 := hide ((unhide A_22).below hb)
 clear A_22
 have C_27 := hide ((unhide C_23).below hb)
 clear C_23
 have O_28 := hide (((heldZ_of (unhide O_24)).below hb (Nat.le_refl _)).own)
 clear O_24
 clear hb
 have hP : tPart tm vt tm2 vt2 ++ cPart l m = ([tRec tm2 vt2] ++ []) := by rw [tP_yes (fun h => unhide HT h.1), cP_no (unhide HCC)]
 have O0 := O_28
 obtain ⟨P, hPP⟩ : ∃ P, P = ([tRec tm2 vt2] ++ []) := ⟨_, rfl⟩
 have HO0 := own_as (P := P) (unhide O0) (by rw [hPP]; first | done | rfl) (by rw [hPP]; first | done | rfl)
 have HPL : P.length ≤ 2 := by rw [hPP]; simp
 have HPP : Hid (L = P ++ (m.drop K).map eRec) := by show _ = _; rw [unhide HL]; unfold recsL; rw [hP, hPP, unhide HK]
 clear hP hPP O0 O_28
 have kA := (unhide A_26).S
 have kC := (unhide C_27).S
 go_wp2_with fail
 go_loopw [5, 7] (fun v i wr => ∃ (j k : Nat) (M : List ByteArray), Hid (k = K + j) ∧ k ≤ n2 ∧ i = .int .i64 k ∧ Hid (M = P ++ ((m.drop K).take j).map eRec) ∧ M.length ≤ 2 + j ∧ Hid (wr.ownsRow (w.heap.size + 2) 9 1 v M.length (cS M)) ∧ Hid (BF (w.heap.size + 1) #[.int .i64 tm2, .int .i64 vt2, .slice (some ⟨b2, o2, none⟩) n2 cap2] wr) ∧ Hid (Below w.heap.size w wr) ∧ w.heap.size + 2 ≤ wr.heap.size) (fun _ i _ => n2 - (intOf i).toNat)
 case atStart => exact ⟨0, K, P, by show K = K + 0; omega, by omega, rfl, by show _ = _; simp, by omega, HO0, C_27, B_25, by have := (unhide C_27).lt; omega⟩
 clear kA kC
 case round =>
  clear HO0 B_25 A_26 C_27
  obtain ⟨j, k, M, HJK, hk, rfl, HM, hML, HO1, C1, HB1, hzw⟩ := hrel
  have c1 := (unhide C1).S
  have hj60 : j ≤ 60 := by have := unhide HJK; omega
  by_cases hlt : k < n2
  ·have hlk : k < m.length := by rw [unhide HN2]; exact hlt
   have hlk2 : K + j < m.length := by have := unhide HJK; omega
   obtain ⟨bb, oo, ha, hblt, hc⟩ := (unhide HRW2).at (by rw [unhide HCM, unhide HN2]; omega)
   have hbo : b2 = bb ∧ o2 = oo := by simpa using ha
   obtain ⟨rfl, rfl⟩ := hbo
   clear ha
   obtain ⟨x0, x1⟩ := row_ent hc k hlk
   obtain ⟨t, et⟩ : ∃ t, t = m[k].1 := ⟨_, rfl⟩
   obtain ⟨d, ed⟩ : ∃ d, d = m[k].2 := ⟨_, rfl⟩
   have hle := log_ent (by omega) (unhide HLOG) k hlk
   rw [← et, ← ed] at hle
   obtain ⟨⟨t2, t3⟩, hd4⟩ := hle
   have HFS : Hid (∀ x ∈ ([⟨#[101]⟩, recN [t], d] : List ByteArray), x.size ≤ 400) := f_e t d hd4
   have HE : Hid (m[K + j] = (t, d)) := by show _ = _; rw [et, ed]; simp only [unhide HJK]
   rw [← et] at x0
   rw [← ed] at x1
   have HX0 := hide x0
   have HX1 := hide x1
   have ik0 : (0 : Int) ≤ (k : Int) := by omega
   have i2 : (k : Int) < (n2 : Int) := by omega
   clear hc x0 x1 et ed hd4
   go_wp2_with fail
   refine wp_region_held_drew (S := fun w' => (∀ o, w'.cell? ⟨w.heap.size + 1, o, none⟩ = (#[.int .i64 tm2, .int .i64 vt2, .slice (some ⟨b2, o2, none⟩) n2 cap2] : Array Value)[o]?) ∧ w'.cell? ⟨b2, o2 + k * 2, none⟩ = some (.int .i64 t) ∧ w'.cell? ⟨b2, o2 + k * 2 + 1, none⟩ = some (.string d)) (by kernel_rfl) ⟨(unhide C1).S, ((unhide HB1).cell (p := ⟨b2, o2 + k * 2, none⟩) hblt).trans (unhide HX0), ((unhide HB1).cell (p := ⟨b2, o2 + k * 2 + 1, none⟩) hblt).trans (unhide HX1)⟩ (fun hHeld => ?_)
   refine wtv 0 (oi := oRecT0) ?_
   refine wtv 1 (oi := oRecT1) ?_
   refine wtv 2 (oi := oRecT2) ?_
   refine wtv 3 (oi := oRecT3) ?_
   refine wtv 4 (oi := oRecT4) ?_
   refine wtv 5 (oi := oRecT5) ?_
   refine wtv 6 (oi := oRecT6) ?_
   refine wtv 10 (oi := oRecT7) ?_
   refine wtv 11 (oi := oRecT8) ?_
   refine wtv 12 (oi := oRecT9) ?_
   refine wtv 13 (oi := oRecT10) ?_
   refine wtv 14 (oi := oRecT11) ?_
   refine wtv 15 (oi := oRecT12) ?_
   have C2 := hide (unhide C1).drew
   have HB2 := hide (unhide HB1).drew
   have HO2 := hide (unhide HO1).drew
   have hz2' : w.heap.size + 2 ≤ wr.drew.heap.size := hzw
   clear C1 HB1 HO1
   generalize wr.drew = q2 at C2 HB2 HO2 hz2' hHeld ⊢
   refine wpAnyH_ready (rs := [7]) (by kernel_rfl) (by simp) ?_
   refine AllReadyH.cons (o := oRecT13) rfl (fun K hK => ?_) AllReadyH.nil
   have C3 := hide ((unhide C2).alloc (.cells #[.int .i64 t] 3))
   have HB3 := hide ((unhide HB2).alloc (unhide HB2).size (.cells #[.int .i64 t] 3))
   have HO3 := hide ((unhide HO2).alloc (.cells #[.int .i64 t] 3))
   have HR3 : Hid (RowV (q2.alloc (.cells #[.int .i64 t] 3)) (some ⟨q2.heap.size, 0, none⟩) (cI [t])) := rowZ_at (z := 1) (base := q2.heap.size) (n := 1) (cap := 1) (World.ownsRow_lit (e := 3) (base := q2.heap.size) (size := 1) q2 #[.int .i64 t] 1 (Nat.le_refl _) (by unfold maxLen; omega) rfl)
   have hz3' : w.heap.size + 2 ≤ (q2.alloc (.cells #[.int .i64 t] 3)).heap.size := by simp; omega
   go_simp
   refine hK.out _ _ ?_ (fun hHeld7 => ?_)
   ·exact ⟨(unhide C3).S, ((unhide HB3).cell (p := ⟨b2, o2 + k * 2, none⟩) hblt).trans (unhide HX0), ((unhide HB3).cell (p := ⟨b2, o2 + k * 2 + 1, none⟩) hblt).trans (unhide HX1)⟩
   clear hK K
   try simp only [Act.put, qqA, qqB, qqC]
   clear C2 HB2 HO2 hz2'
   generalize q2.alloc (.cells #[.int .i64 t] 3) = q3 at C3 HB3 HO3 HR3 hz3' hHeld7 ⊢
   refine wpAnyH_ready (rs := [8]) (by kernel_rfl) (by simp) ?_
   refine AllReadyH.cons (o := oRecT14) rfl (fun K hK => ?_) AllReadyH.nil
   go_simp
   refine (snums _ 1 [t] (by simp) (fit1 (by omega) (by omega)) _ (unhide HR3)).mono ?_
   rintro e q4 ⟨vn, rfl, hon, hb⟩
   have hcv := conv_own (P := Tryd.prog) Tryd.underlying22 Tryd.underlying5 Tryd.underlying9 hon
   obtain ⟨an4, cn4, rfl, -⟩ := own_rowV hon
   have C4 := hide ((unhide C3).below hb)
   have HB4 := hide ((unhide HB3).trans (hb.mono (unhide HB3).size))
   have HO4 := hide ((heldZ_of (unhide HO3)).below hb (Nat.le_refl _)).own
   have hz4' : w.heap.size + 2 ≤ q4.heap.size := Nat.le_trans hz3' hb.size
   clear hb hon C3 HB3 HO3 hz3'
   clear HR3
   obtain ⟨N1, hN1⟩ : ∃ N1, N1 = recN [t] := ⟨_, rfl⟩
   rw [← hN1] at HFS
   have HN1 := hide hN1
   rw [show (⟨(numsL [t]).toArray⟩ : ByteArray) = N1 from hN1.symm] at hcv
   clear hN1
   go_wp2_with fail
   refine hK.out _ _ ?_ (fun hHeld8 => ?_)
   ·exact ⟨(unhide C4).S, ((unhide HB4).cell (p := ⟨b2, o2 + k * 2, none⟩) hblt).trans (unhide HX0), ((unhide HB4).cell (p := ⟨b2, o2 + k * 2 + 1, none⟩) hblt).trans (unhide HX1)⟩
   clear hK K
   try simp only [Act.put, qqA, qqB, qqC]
   refine wpAnyH_ready (rs := [9]) (by kernel_rfl) (by simp) ?_
   refine AllReadyH.cons (o := oRecT15) rfl (fun K hK => ?_) AllReadyH.nil
   go_simp
   clear hcv
   refine hK.out _ _ ?_ (fun hHeld9 => ?_)
   ·exact ⟨(unhide C4).S, ((unhide HB4).cell (p := ⟨b2, o2 + k * 2, none⟩) hblt).trans (unhide HX0), ((unhide HB4).cell (p := ⟨b2, o2 + k * 2 + 1, none⟩) hblt).trans (unhide HX1)⟩
   clear hK K
   try simp only [Act.put, qqA, qqB, qqC]
   refine wpAnyH_ready (rs := [16]) (by kernel_rfl) (by simp) ?_
   refine AllReadyH.cons (o := oRecT16) rfl (fun K hK => ?_) AllReadyH.nil
   have C5 := hide ((unhide C4).alloc (.cells #[.string ⟨#[101]⟩, .string N1, .string d] 9))
   have HB5 := hide ((unhide HB4).alloc (unhide HB4).size (.cells #[.string ⟨#[101]⟩, .string N1, .string d] 9))
   have HO5 := hide ((unhide HO4).alloc (.cells #[.string ⟨#[101]⟩, .string N1, .string d] 9))
   have HR5 : Hid (RowV (q4.alloc (.cells #[.string ⟨#[101]⟩, .string N1, .string d] 9)) (some ⟨q4.heap.size, 0, none⟩) (cS [⟨#[101]⟩, N1, d])) := rowZ_at (z := 1) (base := q4.heap.size) (n := 3) (cap := 3) (World.ownsRow_lit (e := 9) (base := q4.heap.size) (size := 1) q4 #[.string ⟨#[101]⟩, .string N1, .string d] 3 (Nat.le_refl _) (by unfold maxLen; omega) rfl)
   have hz5' : w.heap.size + 2 ≤ (q4.alloc (.cells #[.string ⟨#[101]⟩, .string N1, .string d] 9)).heap.size := by simp; omega
   go_simp
   refine hK.out _ _ ?_ (fun hHeld16 => ?_)
   ·exact ⟨(unhide C5).S, ((unhide HB5).cell (p := ⟨b2, o2 + k * 2, none⟩) hblt).trans (unhide HX0), ((unhide HB5).cell (p := ⟨b2, o2 + k * 2 + 1, none⟩) hblt).trans (unhide HX1)⟩
   clear hK K
   try simp only [Act.put, qqA, qqB, qqC]
   clear C4 HB4 HO4 hz4'
   generalize q4.alloc (.cells #[.string ⟨#[101]⟩, .string N1, .string d] 9) = q5 at C5 HB5 HO5 HR5 hz5' hHeld16 ⊢
   obtain ⟨LX, hLX⟩ : ∃ LX, be [⟨#[101]⟩, N1, d].length 1 ++ fieldsL [⟨#[101]⟩, N1, d] = LX := ⟨_, rfl⟩
   have T2 := hide (sfields24 _ 3 [⟨#[101]⟩, N1, d] (by simp) (short_of (unhide HFS) (by decide)) (fsum_of (n := 3) (unhide HFS) (by simp) (by decide)) _ (unhide HR5))
   rw [hLX] at T2
   have HLX := hide hLX
   clear hLX
   refine wpAnyH_ready (rs := [17]) (by kernel_rfl) (by simp) ?_
   refine AllReadyH.cons (o := oRecT17) rfl (fun K hK => ?_) AllReadyH.nil
   go_simp
   refine (unhide T2).mono ?_
   rintro e q6 ⟨vn, rfl, hon, hb⟩
   have hcv := conv_own (P := Tryd.prog) Tryd.underlying22 Tryd.underlying5 Tryd.underlying9 hon
   obtain ⟨an6, cn6, rfl, -⟩ := own_rowV hon
   have C6 := hide ((unhide C5).below hb)
   have HB6 := hide ((unhide HB5).trans (hb.mono (unhide HB5).size))
   have HO6 := hide ((heldZ_of (unhide HO5)).below hb (Nat.le_refl _)).own
   have hz6' : w.heap.size + 2 ≤ q6.heap.size := Nat.le_trans hz5' hb.size
   clear hb hon C5 HB5 HO5 hz5'
   clear HR5 HFS T2
   obtain ⟨X, hX⟩ : ∃ X, X = (⟨LX.toArray⟩ : ByteArray) := ⟨_, rfl⟩
   rw [← hX] at hcv
   have HX : Hid (X = eRec (t, d)) := by show _ = _; rw [hX, ← unhide HLX, unhide HN1]; rfl
   clear hX HN1 HLX
   go_wp2_with fail
   refine hK.out _ _ ?_ (fun hHeld17 => ?_)
   ·exact ⟨(unhide C6).S, ((unhide HB6).cell (p := ⟨b2, o2 + k * 2, none⟩) hblt).trans (unhide HX0), ((unhide HB6).cell (p := ⟨b2, o2 + k * 2 + 1, none⟩) hblt).trans (unhide HX1)⟩
   clear hK K
   try simp only [Act.put, qqA, qqB, qqC]
   refine wpAnyH_ready (rs := [18]) (by kernel_rfl) (by simp) ?_
   refine AllReadyH.cons (o := oRecT18) rfl (fun K hK => ?_) AllReadyH.nil
   go_simp
   clear hcv
   refine hK.out _ _ ?_ (fun hHeld18 => ?_)
   ·exact ⟨(unhide C6).S, ((unhide HB6).cell (p := ⟨b2, o2 + k * 2, none⟩) hblt).trans (unhide HX0), ((unhide HB6).cell (p := ⟨b2, o2 + k * 2 + 1, none⟩) hblt).trans (unhide HX1)⟩
   clear hK K
   try simp only [Act.put, qqA, qqB, qqC]
   refine wpAnyH_ready (rs := [19]) (by kernel_rfl) (by simp) ?_
   refine AllReadyH.cons (o := oRecT19) rfl (fun K hK => ?_) AllReadyH.nil
   have C7 := hide ((unhide C6).alloc (.cells #[.string X] 9))
   have HB7 := hide ((unhide HB6).alloc (unhide HB6).size (.cells #[.string X] 9))
   have HO7 := hide ((unhide HO6).alloc (.cells #[.string X] 9))
   have HNW : Hid (∀ j u, (cS [X])[j]? = some u → (q6.alloc (.cells #[.string X] 9)).cell? ((⟨q6.heap.size, 0, none⟩ : Addr).add j) = some u) := news_new q6 (cS [X]) 9
   have hz7' : w.heap.size + 2 ≤ (q6.alloc (.cells #[.string X] 9)).heap.size := by simp; omega
   go_simp
   refine hK.out _ _ ?_ (fun hHeld19 => ?_)
   ·exact ⟨(unhide C7).S, ((unhide HB7).cell (p := ⟨b2, o2 + k * 2, none⟩) hblt).trans (unhide HX0), ((unhide HB7).cell (p := ⟨b2, o2 + k * 2 + 1, none⟩) hblt).trans (unhide HX1)⟩
   clear hK K
   try simp only [Act.put, qqA, qqB, qqC]
   clear C6 HB6 HO6
   obtain ⟨G, hG⟩ : ∃ G, G = q6.heap.size := ⟨_, rfl⟩
   rw [← hG] at HNW ⊢
   clear hG
   generalize q6.alloc (.cells #[.string X] 9) = q7 at C7 HB7 HO7 HNW hz7' hHeld19 ⊢
   clear hz6'
   refine wpAnyH_ready (rs := [20]) (by kernel_rfl) (by simp) ?_
   refine AllReadyH.cons (o := oRecT20) rfl (fun K hK => ?_) AllReadyH.nil
   refine step_append_lies _ rfl (.tmp 62) (.tmp 81) 27 rfl (w.heap.size + 2) 9 i0 (.string ⟨#[]⟩) 1 16 Tryd.underlying27 hi hz0 hz1 hz2 rfl (by decide) u5 M.length (cS M) rfl (unhide HO7) ⟨G, 0, none⟩ 1 1 (cS [X]) rfl rfl (unhide HNW) (cS_one _) (by decide) (by unfold maxLen; omega) (by omega) (by omega) _ rfl ?_
   intro g8 c8 q8 hown8 hgrow8 hat8 hlt8
   have HB8 := hide ((unhide HB7).grown hgrow8 (unhide HB7).size (fun k hk => by have := ((unhide HO7).lt k hk).1; omega))
   have C8 := hide ((unhide C7).grown hgrow8 (fun h => by have := ((unhide HO7).lt _ h).1; omega))
   have HO8 := hide (own_appR (m := [X]) hown8 rfl)
   have hz8' : w.heap.size + 2 ≤ q8.heap.size := Nat.le_trans hz7' hgrow8.size
   refine hK.out _ _ ?_ (fun hHeld20 => ?_)
   ·exact ⟨(unhide C8).S, ((unhide HB8).cell (p := ⟨b2, o2 + k * 2, none⟩) hblt).trans (unhide HX0), ((unhide HB8).cell (p := ⟨b2, o2 + k * 2 + 1, none⟩) hblt).trans (unhide HX1)⟩
   clear hK K
   try simp only [Act.put, qqA, qqB, qqC]
   clear hown8 hgrow8 hat8 hlt8 C7 HB7 HO7 HNW
   refine wtv 21 (oi := oRecT21) ?_
   refine wpAnyH_done (by kernel_rfl) ?_ _
   have HM2 : Hid (M ++ [X] = P ++ ((m.drop K).take (j + 1)).map eRec) := by show _ = _; rw [map_snoc P hlk2, ← unhide HM, unhide HE, unhide HX]
   clear HX HE HM
   go_wp2_with fail
   go_roundw
   case rel => exact ⟨j + 1, k + 1, M ++ [X], by show k + 1 = K + (j + 1); have := unhide HJK; omega, by omega, by go_num, HM2, by rw [List.length_append, List.length_singleton]; omega, HO8, C8, HB8, hz8'⟩
   case measure => simp [intOf]; omega
  ·have hM := (unhide HM).trans (map_all P (by rw [unhide HN2]; have := unhide HJK; omega))
   have i1 : ¬ (k : Int) < (n2 : Int) := by omega
   obtain rfl : M = L := hM.trans (unhide HPP).symm
   have HO2 := hide (Go.Joins.ownsRow_le (base' := w.heap.size) (unhide HO1) (by omega))
   clear hM HO1
   go_wp2_with fail
   go_ret
   exact ⟨_, rfl, unhide HO2, unhide HB1⟩
set_option maxHeartbeats 1000000 in
set_option maxRecDepth 100000 in
theorem srecs_tc (tm vt : Int) (a : Option Addr) (cap n : Nat) (l : List Ent) (HN : Hid (l.length = n)) (hn : n ≤ 1048576) (HSZ : Hid (∀ k (h : k < l.length), l[k].2.size ≤ 1048576)) (tm2 vt2 : Int) (b2 o2 : Nat) (cap2 n2 : Nat) (m : List Ent) (HN2 : Hid (m.length = n2)) (hn2 : n2 ≤ 1048576) (HSZ2 : Hid (∀ k (h : k < m.length), m[k].2.size ≤ 1048576)) (HT : Hid (¬ tm = tm2)) (HCC : Hid (comN l m < l.length)) (k1 : stateB tm vt l = true) (k2 : stateB tm2 vt2 m = true) (L : List ByteArray) (HL : Hid (L = recsL tm vt l tm2 vt2 m)) (w : World) (hr : RowV w a (cE l)) (hr2 : RowV w (some ⟨b2, o2, none⟩) (cE m)) :
  Calls Tryd.prog 17 #[.agg #[.int .i64 tm, .int .i64 vt, .slice a n cap], .agg #[.int .i64 tm2, .int .i64 vt2, .slice (some ⟨b2, o2, none⟩) n2 cap2]] w fun e w' => ∃ v, e = .returned v ∧ w'.ownsRow w.heap.size 9 1 v L.length (cS L) ∧ Below w.heap.size w w' := by
 obtain ⟨i0, hi, hz0, hz1, hz2⟩ := info_parts Tryd.infL9
 have HRW1 := hide hr
 have HRW2 := hide hr2
 have hp1 : n ≤ 60 := by have := (state_parts k1).2.2.1; rw [unhide HN] at this; exact this
 have hp2 : n2 ≤ 60 := by have := (state_parts k2).2.2.1; rw [unhide HN2] at this; exact this
 obtain ⟨t0, t1⟩ := (state_parts k2).1
 obtain ⟨v0, v1⟩ := (state_parts k2).2.1
 have HLOG := hide (state_parts k2).2.2.2
 have HCM := hide (cE_len m)
 obtain ⟨K, hK⟩ : ∃ K, comN l m = K := ⟨_, rfl⟩
 have hkl : K ≤ n ∧ K ≤ n2 := by rw [← unhide HN, ← unhide HN2, ← hK]; exact comN_le l m
 obtain ⟨hk1, hk2⟩ := hkl
 have HK := hide hK
 have hkn : (K : Int) < (n : Int) := by have := unhide HCC; rw [hK, unhide HN] at this; omega
 have hkd : decide (K < n) = true := decide_eq_true (by omega)
 clear hr hr2 k1 k2 hK
 have B_1 := hide (Go.Joins.below_alloc3 w (.cells #[.int .i64 tm, .int .i64 vt, .slice a n cap] 25) (.cells #[.int .i64 tm2, .int .i64 vt2, .slice (some ⟨b2, o2, none⟩) n2 cap2] 25) (.cells #[] 9))
 have A_2 := hide (((BF.new w #[.int .i64 tm, .int .i64 vt, .slice a n cap] 25).alloc (.cells #[.int .i64 tm2, .int .i64 vt2, .slice (some ⟨b2, o2, none⟩) n2 cap2] 25)).alloc (.cells #[] 9))
 have C_3 := hide ((BF.new (w.alloc (.cells #[.int .i64 tm, .int .i64 vt, .slice a n cap] 25)) #[.int .i64 tm2, .int .i64 vt2, .slice (some ⟨b2, o2, none⟩) n2 cap2] 25).alloc (.cells #[] 9))
 rw [show (w.alloc (.cells #[.int .i64 tm, .int .i64 vt, .slice a n cap] 25)).heap.size = w.heap.size + 1 from by simp] at C_3
 have O_4 := hide (unhide (own_as (P := ([] : List ByteArray)) (lit_emptyR ((w.alloc (.cells #[.int .i64 tm, .int .i64 vt, .slice a n cap] 25)).alloc (.cells #[.int .i64 tm2, .int .i64 vt2, .slice (some ⟨b2, o2, none⟩) n2 cap2] 25)) 9 (w.heap.size + 2) (by simp)) rfl rfl))
 simp only [World.size_alloc] at O_4
 obtain ⟨w2, hw2⟩ : ∃ w2, w2 = ((w.alloc (.cells #[.int .i64 tm, .int .i64 vt, .slice a n cap] 25)).alloc (.cells #[.int .i64 tm2, .int .i64 vt2, .slice (some ⟨b2, o2, none⟩) n2 cap2] 25)).alloc (.cells #[] 9) := ⟨_, rfl⟩
 have ht1 : (tm != tm2) = true := by simpa using unhide HT
 go_enter Tryd.func17, Tryd.ntmps17
 go_upto_region 2 with fail
 rw [← hw2] at B_1 A_2 C_3 O_4 ⊢
 clear hw2
 have HNI : Hid (RowV (w2.alloc (.cells #[.int .i64 tm2, .int .i64 vt2] 3)) (some ⟨w2.heap.size, 0, none⟩) (cI [tm2, vt2])) := rowZ_at (z := 1) (base := w2.heap.size) (n := 2) (cap := 2) (World.ownsRow_lit (e := 3) (base := w2.heap.size) (size := 1) w2 #[.int .i64 tm2, .int .i64 vt2] 2 (Nat.le_refl _) (by unfold maxLen; omega) rfl)
 have kA := (unhide A_2).S
 have kC := (unhide C_3).S
 have B_5 := hide ((unhide B_1).alloc (unhide B_1).size (.cells #[.int .i64 tm2, .int .i64 vt2] 3))
 clear B_1
 have A_6 := hide ((unhide A_2).alloc (.cells #[.int .i64 tm2, .int .i64 vt2] 3))
 clear A_2
 have C_7 := hide ((unhide C_3).alloc (.cells #[.int .i64 tm2, .int .i64 vt2] 3))
 clear C_3
 have O_8 := hide ((unhide O_4).alloc (.cells #[.int .i64 tm2, .int .i64 vt2] 3))
 clear O_4
 go_wp2_with fail
 refine (snums _ 2 [tm2, vt2] (by simp) (fit2 (by omega) (by omega) (by omega) (by omega)) _ (unhide HNI)).mono ?_
 rintro e w3 ⟨vn, rfl, hon, hb⟩
 clear kA kC
 have hcv := conv_own (P := Tryd.prog) Tryd.underlying22 Tryd.underlying5 Tryd.underlying9 hon
 obtain ⟨an, cn, rfl, -⟩ := own_rowV hon
 clear hon
 have B_9 := hide ((unhide B_5).trans (hb.mono (unhide B_5).size))
 clear B_5
 have A_10 := hide ((unhide A_6).below hb)
 clear A_6
 have C_11 := hide ((unhide C_7).below hb)
 clear C_7
 have O_12 := hide (((heldZ_of (unhide O_8)).below hb (Nat.le_refl _)).own)
 clear O_8
 clear hb
 clear HNI
 obtain ⟨N1, hN1⟩ : ∃ N1, N1 = recN [tm2, vt2] := ⟨_, rfl⟩
 have HN1 := hide hN1
 have HFS : Hid (∀ x ∈ ([⟨#[116]⟩, N1] : List ByteArray), x.size ≤ 400) := by rw [hN1]; exact f_t _ _
 rw [show (⟨(numsL [tm2, vt2]).toArray⟩ : ByteArray) = N1 from hN1.symm] at hcv
 clear hN1
 have HNS : Hid (RowV (w3.alloc (.cells #[.string ⟨#[116]⟩, .string N1] 9)) (some ⟨w3.heap.size, 0, none⟩) (cS [⟨#[116]⟩, N1])) := rowZ_at (z := 1) (base := w3.heap.size) (n := 2) (cap := 2) (World.ownsRow_lit (e := 9) (base := w3.heap.size) (size := 1) w3 #[.string ⟨#[116]⟩, .string N1] 2 (Nat.le_refl _) (by unfold maxLen; omega) rfl)
 have B_13 := hide ((unhide B_9).alloc (unhide B_9).size (.cells #[.string ⟨#[116]⟩, .string N1] 9))
 clear B_9
 have A_14 := hide ((unhide A_10).alloc (.cells #[.string ⟨#[116]⟩, .string N1] 9))
 clear A_10
 have C_15 := hide ((unhide C_11).alloc (.cells #[.string ⟨#[116]⟩, .string N1] 9))
 clear C_11
 have O_16 := hide ((unhide O_12).alloc (.cells #[.string ⟨#[116]⟩, .string N1] 9))
 clear O_12
 go_wp2_with fail
 obtain ⟨LX, hLX⟩ : ∃ LX, be [⟨#[116]⟩, N1].length 1 ++ fieldsL [⟨#[116]⟩, N1] = LX := ⟨_, rfl⟩
 have T2 := hide (sfields24 _ 2 [⟨#[116]⟩, N1] (by simp) (short_of (unhide HFS) (by decide)) (fsum_of (n := 3) (unhide HFS) (by simp) (by decide)) _ (unhide HNS))
 rw [hLX] at T2
 have HLX := hide hLX
 clear hLX
 refine (unhide T2).mono ?_
 rintro e w4 ⟨vn, rfl, hon, hb⟩
 clear hcv
 have hcv := conv_own (P := Tryd.prog) Tryd.underlying22 Tryd.underlying5 Tryd.underlying9 hon
 obtain ⟨am, cm, rfl, -⟩ := own_rowV hon
 clear hon
 have B_17 := hide ((unhide B_13).trans (hb.mono (unhide B_13).size))
 clear B_13
 have A_18 := hide ((unhide A_14).below hb)
 clear A_14
 have C_19 := hide ((unhide C_15).below hb)
 clear C_15
 have O_20 := hide (((heldZ_of (unhide O_16)).below hb (Nat.le_refl _)).own)
 clear O_16
 clear hb
 clear HNS HFS T2
 obtain ⟨X, hX⟩ : ∃ X, X = (⟨LX.toArray⟩ : ByteArray) := ⟨_, rfl⟩
 rw [← hX] at hcv
 have HX : Hid (X = tRec tm2 vt2) := by show _ = _; rw [hX, ← unhide HLX, unhide HN1]; rfl
 clear hX HN1 HLX
 have hown := (unhide O_20)
 have hzb := (unhide B_17).size
 have hzc := (unhide C_19).lt
 go_wp2_with (at_builtin; clear hcv; refine wpList_append_lies _ rfl (.tmp 21) (.tmp 32) 27 rfl (w.heap.size + 2) 9 i0 (.string ⟨#[]⟩) 1 16 Tryd.underlying27 hi hz0 hz1 hz2 rfl (by decide) _ _ _ rfl (hown.alloc _) ⟨w4.heap.size, 0, none⟩ 1 1 (cS [X]) rfl rfl (by exact news_new w4 (cS [X]) 9) (cS_one _) (by decide) (by unfold maxLen; simp; try omega) (by simp; try omega) (by simp; omega) _ rfl ?_; intro g2 c2 w5 hown2 hgrow2 hat2 hlt2; have B_21 := hide (below_app (unhide B_17) (unhide B_17).size hown (by omega) hgrow2); have A_22 := hide (((unhide A_18).alloc _).grown hgrow2 (fun h => by have := (hown.lt _ h).1; omega)); have C_23 := hide (((unhide C_19).alloc _).grown hgrow2 (fun h => by have := (hown.lt _ h).1; omega)); have O_24 := hide (own_appR (l := ([] : List ByteArray)) (m := [X]) hown2 rfl); clear hown2 hgrow2 hat2 hlt2 hown hzb hzc B_17 A_18 C_19 O_20; have kA := (unhide A_22).S; have kC := (unhide C_23).S)
 rw [unhide HX] at O_24
 clear HX
 refine (scommon a (some ⟨b2, o2, none⟩) cap cap2 n n2 l m HN HN2 hp1 hp2 K HK _ ((unhide HRW1).below (unhide B_21)) ((unhide HRW2).below (unhide B_21))).mono ?_
 rintro e w6 ⟨rfl, hb⟩
 clear kA kC
 have B_25 := hide ((unhide B_21).trans (hb.mono (unhide B_21).size))
 clear B_21
 have A_26 := hide ((unhide A_22).below hb)
 clear A_22
 have C_27 := hide ((unhide C_23).below hb)
 clear C_23
 have O_28 := hide (((heldZ_of (unhide O_24)).below hb (Nat.le_refl _)).own)
 clear O_24
 clear hb
 have HNI : Hid (RowV (w6.alloc (.cells #[.int .i64 (K : Int)] 3)) (some ⟨w6.heap.size, 0, none⟩) (cI [(K : Int)])) := rowZ_at (z := 1) (base := w6.heap.size) (n := 1) (cap := 1) (World.ownsRow_lit (e := 3) (base := w6.heap.size) (size := 1) w6 #[.int .i64 (K : Int)] 1 (Nat.le_refl _) (by unfold maxLen; omega) rfl)
 have kA := (unhide A_26).S
 have kC := (unhide C_27).S
 have B_29 := hide ((unhide B_25).alloc (unhide B_25).size (.cells #[.int .i64 (K : Int)] 3))
 clear B_25
 have A_30 := hide ((unhide A_26).alloc (.cells #[.int .i64 (K : Int)] 3))
 clear A_26
 have C_31 := hide ((unhide C_27).alloc (.cells #[.int .i64 (K : Int)] 3))
 clear C_27
 have O_32 := hide ((unhide O_28).alloc (.cells #[.int .i64 (K : Int)] 3))
 clear O_28
 go_wp2_with fail
 refine (snums _ 1 [(K : Int)] (by simp) (fit1 (by omega) (by omega)) _ (unhide HNI)).mono ?_
 rintro e w7 ⟨vn, rfl, hon, hb⟩
 clear kA kC
 have hcv := conv_own (P := Tryd.prog) Tryd.underlying22 Tryd.underlying5 Tryd.underlying9 hon
 obtain ⟨an, cn, rfl, -⟩ := own_rowV hon
 clear hon
 have B_33 := hide ((unhide B_29).trans (hb.mono (unhide B_29).size))
 clear B_29
 have A_34 := hide ((unhide A_30).below hb)
 clear A_30
 have C_35 := hide ((unhide C_31).below hb)
 clear C_31
 have O_36 := hide (((heldZ_of (unhide O_32)).below hb (Nat.le_refl _)).own)
 clear O_32
 clear hb
 clear HNI
 obtain ⟨N1, hN1⟩ : ∃ N1, N1 = recN [(K : Int)] := ⟨_, rfl⟩
 have HN1 := hide hN1
 have HFS : Hid (∀ x ∈ ([⟨#[99]⟩, N1] : List ByteArray), x.size ≤ 400) := by rw [hN1]; exact f_c _
 rw [show (⟨(numsL [(K : Int)]).toArray⟩ : ByteArray) = N1 from hN1.symm] at hcv
 clear hN1
 have HNS : Hid (RowV (w7.alloc (.cells #[.string ⟨#[99]⟩, .string N1] 9)) (some ⟨w7.heap.size, 0, none⟩) (cS [⟨#[99]⟩, N1])) := rowZ_at (z := 1) (base := w7.heap.size) (n := 2) (cap := 2) (World.ownsRow_lit (e := 9) (base := w7.heap.size) (size := 1) w7 #[.string ⟨#[99]⟩, .string N1] 2 (Nat.le_refl _) (by unfold maxLen; omega) rfl)
 have B_37 := hide ((unhide B_33).alloc (unhide B_33).size (.cells #[.string ⟨#[99]⟩, .string N1] 9))
 clear B_33
 have A_38 := hide ((unhide A_34).alloc (.cells #[.string ⟨#[99]⟩, .string N1] 9))
 clear A_34
 have C_39 := hide ((unhide C_35).alloc (.cells #[.string ⟨#[99]⟩, .string N1] 9))
 clear C_35
 have O_40 := hide ((unhide O_36).alloc (.cells #[.string ⟨#[99]⟩, .string N1] 9))
 clear O_36
 go_wp2_with fail
 obtain ⟨LX, hLX⟩ : ∃ LX, be [⟨#[99]⟩, N1].length 1 ++ fieldsL [⟨#[99]⟩, N1] = LX := ⟨_, rfl⟩
 have T2 := hide (sfields24 _ 2 [⟨#[99]⟩, N1] (by simp) (short_of (unhide HFS) (by decide)) (fsum_of (n := 3) (unhide HFS) (by simp) (by decide)) _ (unhide HNS))
 rw [hLX] at T2
 have HLX := hide hLX
 clear hLX
 refine (unhide T2).mono ?_
 rintro e w8 ⟨vn, rfl, hon, hb⟩
 clear hcv
 have hcv := conv_own (P := Tryd.prog) Tryd.underlying22 Tryd.underlying5 Tryd.underlying9 hon
 obtain ⟨am, cm, rfl, -⟩ := own_rowV hon
 clear hon
 have B_41 := hide ((unhide B_37).trans (hb.mono (unhide B_37).size))
 clear B_37
 have A_42 := hide ((unhide A_38).below hb)
 clear A_38
 have C_43 := hide ((unhide C_39).below hb)
 clear C_39
 have O_44 := hide (((heldZ_of (unhide O_40)).below hb (Nat.le_refl _)).own)
 clear O_40
 clear hb
 clear HNS HFS T2
 obtain ⟨X, hX⟩ : ∃ X, X = (⟨LX.toArray⟩ : ByteArray) := ⟨_, rfl⟩
 rw [← hX] at hcv
 have HX : Hid (X = cRec K) := by show _ = _; rw [hX, ← unhide HLX, unhide HN1]; rfl
 clear hX HN1 HLX
 have hown := (unhide O_44)
 have hzb := (unhide B_41).size
 have hzc := (unhide C_43).lt
 go_wp2_with (at_builtin; clear hcv; refine wpList_append_lies _ rfl (.tmp 44) (.tmp 52) 27 rfl (w.heap.size + 2) 9 i0 (.string ⟨#[]⟩) 1 16 Tryd.underlying27 hi hz0 hz1 hz2 rfl (by decide) _ _ _ rfl (hown.alloc _) ⟨w8.heap.size, 0, none⟩ 1 1 (cS [X]) rfl rfl (by exact news_new w8 (cS [X]) 9) (cS_one _) (by decide) (by unfold maxLen; simp; try omega) (by simp; try omega) (by simp; omega) _ rfl ?_; intro g2 c2 w9 hown2 hgrow2 hat2 hlt2; have B_45 := hide (below_app (unhide B_41) (unhide B_41).size hown (by omega) hgrow2); have A_46 := hide (((unhide A_42).alloc _).grown hgrow2 (fun h => by have := (hown.lt _ h).1; omega)); have C_47 := hide (((unhide C_43).alloc _).grown hgrow2 (fun h => by have := (hown.lt _ h).1; omega)); have O_48 := hide (own_appR (l := ([] ++ [tRec tm2 vt2])) (m := [X]) hown2 rfl); clear hown2 hgrow2 hat2 hlt2 hown hzb hzc B_41 A_42 C_43 O_44; have kA := (unhide A_46).S; have kC := (unhide C_47).S)
 rw [unhide HX] at O_48
 clear HX
 have hP : tPart tm vt tm2 vt2 ++ cPart l m = ([tRec tm2 vt2] ++ [cRec K]) := by rw [tP_yes (fun h => unhide HT h.1), cP_yes (unhide HCC), unhide HK]
 have O0 := O_48
 obtain ⟨P, hPP⟩ : ∃ P, P = ([tRec tm2 vt2] ++ [cRec K]) := ⟨_, rfl⟩
 have HO0 := own_as (P := P) (unhide O0) (by rw [hPP]; first | done | rfl) (by rw [hPP]; first | done | rfl)
 have HPL : P.length ≤ 2 := by rw [hPP]; simp
 have HPP : Hid (L = P ++ (m.drop K).map eRec) := by show _ = _; rw [unhide HL]; unfold recsL; rw [hP, hPP, unhide HK]
 clear hP hPP O0 O_48
 go_loopw [5, 7] (fun v i wr => ∃ (j k : Nat) (M : List ByteArray), Hid (k = K + j) ∧ k ≤ n2 ∧ i = .int .i64 k ∧ Hid (M = P ++ ((m.drop K).take j).map eRec) ∧ M.length ≤ 2 + j ∧ Hid (wr.ownsRow (w.heap.size + 2) 9 1 v M.length (cS M)) ∧ Hid (BF (w.heap.size + 1) #[.int .i64 tm2, .int .i64 vt2, .slice (some ⟨b2, o2, none⟩) n2 cap2] wr) ∧ Hid (Below w.heap.size w wr) ∧ w.heap.size + 2 ≤ wr.heap.size) (fun _ i _ => n2 - (intOf i).toNat)
 case atStart => exact ⟨0, K, P, by show K = K + 0; omega, by omega, rfl, by show _ = _; simp, by omega, HO0, C_47, B_45, by have := (unhide C_47).lt; omega⟩
 clear kA kC
 case round =>
  clear HO0 B_45 A_46 C_47
  obtain ⟨j, k, M, HJK, hk, rfl, HM, hML, HO1, C1, HB1, hzw⟩ := hrel
  have c1 := (unhide C1).S
  have hj60 : j ≤ 60 := by have := unhide HJK; omega
  by_cases hlt : k < n2
  ·have hlk : k < m.length := by rw [unhide HN2]; exact hlt
   have hlk2 : K + j < m.length := by have := unhide HJK; omega
   obtain ⟨bb, oo, ha, hblt, hc⟩ := (unhide HRW2).at (by rw [unhide HCM, unhide HN2]; omega)
   have hbo : b2 = bb ∧ o2 = oo := by simpa using ha
   obtain ⟨rfl, rfl⟩ := hbo
   clear ha
   obtain ⟨x0, x1⟩ := row_ent hc k hlk
   obtain ⟨t, et⟩ : ∃ t, t = m[k].1 := ⟨_, rfl⟩
   obtain ⟨d, ed⟩ : ∃ d, d = m[k].2 := ⟨_, rfl⟩
   have hle := log_ent (by omega) (unhide HLOG) k hlk
   rw [← et, ← ed] at hle
   obtain ⟨⟨t2, t3⟩, hd4⟩ := hle
   have HFS : Hid (∀ x ∈ ([⟨#[101]⟩, recN [t], d] : List ByteArray), x.size ≤ 400) := f_e t d hd4
   have HE : Hid (m[K + j] = (t, d)) := by show _ = _; rw [et, ed]; simp only [unhide HJK]
   rw [← et] at x0
   rw [← ed] at x1
   have HX0 := hide x0
   have HX1 := hide x1
   have ik0 : (0 : Int) ≤ (k : Int) := by omega
   have i2 : (k : Int) < (n2 : Int) := by omega
   clear hc x0 x1 et ed hd4
   go_wp2_with fail
   refine wp_region_held_drew (S := fun w' => (∀ o, w'.cell? ⟨w.heap.size + 1, o, none⟩ = (#[.int .i64 tm2, .int .i64 vt2, .slice (some ⟨b2, o2, none⟩) n2 cap2] : Array Value)[o]?) ∧ w'.cell? ⟨b2, o2 + k * 2, none⟩ = some (.int .i64 t) ∧ w'.cell? ⟨b2, o2 + k * 2 + 1, none⟩ = some (.string d)) (by kernel_rfl) ⟨(unhide C1).S, ((unhide HB1).cell (p := ⟨b2, o2 + k * 2, none⟩) hblt).trans (unhide HX0), ((unhide HB1).cell (p := ⟨b2, o2 + k * 2 + 1, none⟩) hblt).trans (unhide HX1)⟩ (fun hHeld => ?_)
   refine wtv 0 (oi := oRecT0) ?_
   refine wtv 1 (oi := oRecT1) ?_
   refine wtv 2 (oi := oRecT2) ?_
   refine wtv 3 (oi := oRecT3) ?_
   refine wtv 4 (oi := oRecT4) ?_
   refine wtv 5 (oi := oRecT5) ?_
   refine wtv 6 (oi := oRecT6) ?_
   refine wtv 10 (oi := oRecT7) ?_
   refine wtv 11 (oi := oRecT8) ?_
   refine wtv 12 (oi := oRecT9) ?_
   refine wtv 13 (oi := oRecT10) ?_
   refine wtv 14 (oi := oRecT11) ?_
   refine wtv 15 (oi := oRecT12) ?_
   have C2 := hide (unhide C1).drew
   have HB2 := hide (unhide HB1).drew
   have HO2 := hide (unhide HO1).drew
   have hz2' : w.heap.size + 2 ≤ wr.drew.heap.size := hzw
   clear C1 HB1 HO1
   generalize wr.drew = q2 at C2 HB2 HO2 hz2' hHeld ⊢
   refine wpAnyH_ready (rs := [7]) (by kernel_rfl) (by simp) ?_
   refine AllReadyH.cons (o := oRecT13) rfl (fun K hK => ?_) AllReadyH.nil
   have C3 := hide ((unhide C2).alloc (.cells #[.int .i64 t] 3))
   have HB3 := hide ((unhide HB2).alloc (unhide HB2).size (.cells #[.int .i64 t] 3))
   have HO3 := hide ((unhide HO2).alloc (.cells #[.int .i64 t] 3))
   have HR3 : Hid (RowV (q2.alloc (.cells #[.int .i64 t] 3)) (some ⟨q2.heap.size, 0, none⟩) (cI [t])) := rowZ_at (z := 1) (base := q2.heap.size) (n := 1) (cap := 1) (World.ownsRow_lit (e := 3) (base := q2.heap.size) (size := 1) q2 #[.int .i64 t] 1 (Nat.le_refl _) (by unfold maxLen; omega) rfl)
   have hz3' : w.heap.size + 2 ≤ (q2.alloc (.cells #[.int .i64 t] 3)).heap.size := by simp; omega
   go_simp
   refine hK.out _ _ ?_ (fun hHeld7 => ?_)
   ·exact ⟨(unhide C3).S, ((unhide HB3).cell (p := ⟨b2, o2 + k * 2, none⟩) hblt).trans (unhide HX0), ((unhide HB3).cell (p := ⟨b2, o2 + k * 2 + 1, none⟩) hblt).trans (unhide HX1)⟩
   clear hK K
   try simp only [Act.put, qqA, qqB, qqC]
   clear C2 HB2 HO2 hz2'
   generalize q2.alloc (.cells #[.int .i64 t] 3) = q3 at C3 HB3 HO3 HR3 hz3' hHeld7 ⊢
   refine wpAnyH_ready (rs := [8]) (by kernel_rfl) (by simp) ?_
   refine AllReadyH.cons (o := oRecT14) rfl (fun K hK => ?_) AllReadyH.nil
   go_simp
   refine (snums _ 1 [t] (by simp) (fit1 (by omega) (by omega)) _ (unhide HR3)).mono ?_
   rintro e q4 ⟨vn, rfl, hon, hb⟩
   have hcv := conv_own (P := Tryd.prog) Tryd.underlying22 Tryd.underlying5 Tryd.underlying9 hon
   obtain ⟨an4, cn4, rfl, -⟩ := own_rowV hon
   have C4 := hide ((unhide C3).below hb)
   have HB4 := hide ((unhide HB3).trans (hb.mono (unhide HB3).size))
   have HO4 := hide ((heldZ_of (unhide HO3)).below hb (Nat.le_refl _)).own
   have hz4' : w.heap.size + 2 ≤ q4.heap.size := Nat.le_trans hz3' hb.size
   clear hb hon C3 HB3 HO3 hz3'
   clear HR3
   obtain ⟨N1, hN1⟩ : ∃ N1, N1 = recN [t] := ⟨_, rfl⟩
   rw [← hN1] at HFS
   have HN1 := hide hN1
   rw [show (⟨(numsL [t]).toArray⟩ : ByteArray) = N1 from hN1.symm] at hcv
   clear hN1
   go_wp2_with fail
   refine hK.out _ _ ?_ (fun hHeld8 => ?_)
   ·exact ⟨(unhide C4).S, ((unhide HB4).cell (p := ⟨b2, o2 + k * 2, none⟩) hblt).trans (unhide HX0), ((unhide HB4).cell (p := ⟨b2, o2 + k * 2 + 1, none⟩) hblt).trans (unhide HX1)⟩
   clear hK K
   try simp only [Act.put, qqA, qqB, qqC]
   refine wpAnyH_ready (rs := [9]) (by kernel_rfl) (by simp) ?_
   refine AllReadyH.cons (o := oRecT15) rfl (fun K hK => ?_) AllReadyH.nil
   go_simp
   clear hcv
   refine hK.out _ _ ?_ (fun hHeld9 => ?_)
   ·exact ⟨(unhide C4).S, ((unhide HB4).cell (p := ⟨b2, o2 + k * 2, none⟩) hblt).trans (unhide HX0), ((unhide HB4).cell (p := ⟨b2, o2 + k * 2 + 1, none⟩) hblt).trans (unhide HX1)⟩
   clear hK K
   try simp only [Act.put, qqA, qqB, qqC]
   refine wpAnyH_ready (rs := [16]) (by kernel_rfl) (by simp) ?_
   refine AllReadyH.cons (o := oRecT16) rfl (fun K hK => ?_) AllReadyH.nil
   have C5 := hide ((unhide C4).alloc (.cells #[.string ⟨#[101]⟩, .string N1, .string d] 9))
   have HB5 := hide ((unhide HB4).alloc (unhide HB4).size (.cells #[.string ⟨#[101]⟩, .string N1, .string d] 9))
   have HO5 := hide ((unhide HO4).alloc (.cells #[.string ⟨#[101]⟩, .string N1, .string d] 9))
   have HR5 : Hid (RowV (q4.alloc (.cells #[.string ⟨#[101]⟩, .string N1, .string d] 9)) (some ⟨q4.heap.size, 0, none⟩) (cS [⟨#[101]⟩, N1, d])) := rowZ_at (z := 1) (base := q4.heap.size) (n := 3) (cap := 3) (World.ownsRow_lit (e := 9) (base := q4.heap.size) (size := 1) q4 #[.string ⟨#[101]⟩, .string N1, .string d] 3 (Nat.le_refl _) (by unfold maxLen; omega) rfl)
   have hz5' : w.heap.size + 2 ≤ (q4.alloc (.cells #[.string ⟨#[101]⟩, .string N1, .string d] 9)).heap.size := by simp; omega
   go_simp
   refine hK.out _ _ ?_ (fun hHeld16 => ?_)
   ·exact ⟨(unhide C5).S, ((unhide HB5).cell (p := ⟨b2, o2 + k * 2, none⟩) hblt).trans (unhide HX0), ((unhide HB5).cell (p := ⟨b2, o2 + k * 2 + 1, none⟩) hblt).trans (unhide HX1)⟩
   clear hK K
   try simp only [Act.put, qqA, qqB, qqC]
   clear C4 HB4 HO4 hz4'
   generalize q4.alloc (.cells #[.string ⟨#[101]⟩, .string N1, .string d] 9) = q5 at C5 HB5 HO5 HR5 hz5' hHeld16 ⊢
   obtain ⟨LX, hLX⟩ : ∃ LX, be [⟨#[101]⟩, N1, d].length 1 ++ fieldsL [⟨#[101]⟩, N1, d] = LX := ⟨_, rfl⟩
   have T2 := hide (sfields24 _ 3 [⟨#[101]⟩, N1, d] (by simp) (short_of (unhide HFS) (by decide)) (fsum_of (n := 3) (unhide HFS) (by simp) (by decide)) _ (unhide HR5))
   rw [hLX] at T2
   have HLX := hide hLX
   clear hLX
   refine wpAnyH_ready (rs := [17]) (by kernel_rfl) (by simp) ?_
   refine AllReadyH.cons (o := oRecT17) rfl (fun K hK => ?_) AllReadyH.nil
   go_simp
   refine (unhide T2).mono ?_
   rintro e q6 ⟨vn, rfl, hon, hb⟩
   have hcv := conv_own (P := Tryd.prog) Tryd.underlying22 Tryd.underlying5 Tryd.underlying9 hon
   obtain ⟨an6, cn6, rfl, -⟩ := own_rowV hon
   have C6 := hide ((unhide C5).below hb)
   have HB6 := hide ((unhide HB5).trans (hb.mono (unhide HB5).size))
   have HO6 := hide ((heldZ_of (unhide HO5)).below hb (Nat.le_refl _)).own
   have hz6' : w.heap.size + 2 ≤ q6.heap.size := Nat.le_trans hz5' hb.size
   clear hb hon C5 HB5 HO5 hz5'
   clear HR5 HFS T2
   obtain ⟨X, hX⟩ : ∃ X, X = (⟨LX.toArray⟩ : ByteArray) := ⟨_, rfl⟩
   rw [← hX] at hcv
   have HX : Hid (X = eRec (t, d)) := by show _ = _; rw [hX, ← unhide HLX, unhide HN1]; rfl
   clear hX HN1 HLX
   go_wp2_with fail
   refine hK.out _ _ ?_ (fun hHeld17 => ?_)
   ·exact ⟨(unhide C6).S, ((unhide HB6).cell (p := ⟨b2, o2 + k * 2, none⟩) hblt).trans (unhide HX0), ((unhide HB6).cell (p := ⟨b2, o2 + k * 2 + 1, none⟩) hblt).trans (unhide HX1)⟩
   clear hK K
   try simp only [Act.put, qqA, qqB, qqC]
   refine wpAnyH_ready (rs := [18]) (by kernel_rfl) (by simp) ?_
   refine AllReadyH.cons (o := oRecT18) rfl (fun K hK => ?_) AllReadyH.nil
   go_simp
   clear hcv
   refine hK.out _ _ ?_ (fun hHeld18 => ?_)
   ·exact ⟨(unhide C6).S, ((unhide HB6).cell (p := ⟨b2, o2 + k * 2, none⟩) hblt).trans (unhide HX0), ((unhide HB6).cell (p := ⟨b2, o2 + k * 2 + 1, none⟩) hblt).trans (unhide HX1)⟩
   clear hK K
   try simp only [Act.put, qqA, qqB, qqC]
   refine wpAnyH_ready (rs := [19]) (by kernel_rfl) (by simp) ?_
   refine AllReadyH.cons (o := oRecT19) rfl (fun K hK => ?_) AllReadyH.nil
   have C7 := hide ((unhide C6).alloc (.cells #[.string X] 9))
   have HB7 := hide ((unhide HB6).alloc (unhide HB6).size (.cells #[.string X] 9))
   have HO7 := hide ((unhide HO6).alloc (.cells #[.string X] 9))
   have HNW : Hid (∀ j u, (cS [X])[j]? = some u → (q6.alloc (.cells #[.string X] 9)).cell? ((⟨q6.heap.size, 0, none⟩ : Addr).add j) = some u) := news_new q6 (cS [X]) 9
   have hz7' : w.heap.size + 2 ≤ (q6.alloc (.cells #[.string X] 9)).heap.size := by simp; omega
   go_simp
   refine hK.out _ _ ?_ (fun hHeld19 => ?_)
   ·exact ⟨(unhide C7).S, ((unhide HB7).cell (p := ⟨b2, o2 + k * 2, none⟩) hblt).trans (unhide HX0), ((unhide HB7).cell (p := ⟨b2, o2 + k * 2 + 1, none⟩) hblt).trans (unhide HX1)⟩
   clear hK K
   try simp only [Act.put, qqA, qqB, qqC]
   clear C6 HB6 HO6
   obtain ⟨G, hG⟩ : ∃ G, G = q6.heap.size := ⟨_, rfl⟩
   rw [← hG] at HNW ⊢
   clear hG
   generalize q6.alloc (.cells #[.string X] 9) = q7 at C7 HB7 HO7 HNW hz7' hHeld19 ⊢
   clear hz6'
   refine wpAnyH_ready (rs := [20]) (by kernel_rfl) (by simp) ?_
   refine AllReadyH.cons (o := oRecT20) rfl (fun K hK => ?_) AllReadyH.nil
   refine step_append_lies _ rfl (.tmp 62) (.tmp 81) 27 rfl (w.heap.size + 2) 9 i0 (.string ⟨#[]⟩) 1 16 Tryd.underlying27 hi hz0 hz1 hz2 rfl (by decide) u5 M.length (cS M) rfl (unhide HO7) ⟨G, 0, none⟩ 1 1 (cS [X]) rfl rfl (unhide HNW) (cS_one _) (by decide) (by unfold maxLen; omega) (by omega) (by omega) _ rfl ?_
   intro g8 c8 q8 hown8 hgrow8 hat8 hlt8
   have HB8 := hide ((unhide HB7).grown hgrow8 (unhide HB7).size (fun k hk => by have := ((unhide HO7).lt k hk).1; omega))
   have C8 := hide ((unhide C7).grown hgrow8 (fun h => by have := ((unhide HO7).lt _ h).1; omega))
   have HO8 := hide (own_appR (m := [X]) hown8 rfl)
   have hz8' : w.heap.size + 2 ≤ q8.heap.size := Nat.le_trans hz7' hgrow8.size
   refine hK.out _ _ ?_ (fun hHeld20 => ?_)
   ·exact ⟨(unhide C8).S, ((unhide HB8).cell (p := ⟨b2, o2 + k * 2, none⟩) hblt).trans (unhide HX0), ((unhide HB8).cell (p := ⟨b2, o2 + k * 2 + 1, none⟩) hblt).trans (unhide HX1)⟩
   clear hK K
   try simp only [Act.put, qqA, qqB, qqC]
   clear hown8 hgrow8 hat8 hlt8 C7 HB7 HO7 HNW
   refine wtv 21 (oi := oRecT21) ?_
   refine wpAnyH_done (by kernel_rfl) ?_ _
   have HM2 : Hid (M ++ [X] = P ++ ((m.drop K).take (j + 1)).map eRec) := by show _ = _; rw [map_snoc P hlk2, ← unhide HM, unhide HE, unhide HX]
   clear HX HE HM
   go_wp2_with fail
   go_roundw
   case rel => exact ⟨j + 1, k + 1, M ++ [X], by show k + 1 = K + (j + 1); have := unhide HJK; omega, by omega, by go_num, HM2, by rw [List.length_append, List.length_singleton]; omega, HO8, C8, HB8, hz8'⟩
   case measure => simp [intOf]; omega
  ·have hM := (unhide HM).trans (map_all P (by rw [unhide HN2]; have := unhide HJK; omega))
   have i1 : ¬ (k : Int) < (n2 : Int) := by omega
   obtain rfl : M = L := hM.trans (unhide HPP).symm
   have HO2 := hide (Go.Joins.ownsRow_le (base' := w.heap.size) (unhide HO1) (by omega))
   clear hM HO1
   go_wp2_with fail
   go_ret
   exact ⟨_, rfl, unhide HO2, unhide HB1⟩
end Go.Proofs.YtamjljhbnhdgdaaDoor
