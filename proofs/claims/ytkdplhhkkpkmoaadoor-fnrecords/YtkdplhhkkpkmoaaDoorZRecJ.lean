/- Records between states: what the program answers. -/
import Derived.Test.YtkdplhhkkpkmoaaDoorZG4
import Derived.Test.YtkdplhhkkpkmoaaDoorZG27
import Derived.Test.YtkdplhhkkpkmoaaDoorZG28
import Derived.Test.YtkdplhhkkpkmoaaDoorZSteI
import Derived.Deep.AppendLies
namespace Go.Proofs.YtkdplhhkkpkmoaaDoor
open Go.ChangeShapes Go.WideShapes Go.ChangeAt Go.RowKit
set_option linter.unusedVariables false
abbrev oRecJ0 : Oper := { dst := some 68, op := .move (.tmp 6), type := 28, pos := "l07_store.go:98", after := #[], guard := none }
abbrev oRecJ1 : Oper := { dst := some 69, op := .fieldAddr 46 (.tmp 9) 0, type := 0, pos := "l07_store.go:98", after := #[], guard := none }
abbrev oRecJ2 : Oper := { dst := some 70, op := .load 3 (.tmp 69), type := 3, pos := "l07_store.go:98", after := #[{ on := 1, ground := .data }], guard := none }
abbrev oRecJ3 : Oper := { dst := some 73, op := .fieldAddr 46 (.tmp 9) 1, type := 0, pos := "l07_store.go:98", after := #[], guard := none }
abbrev oRecJ4 : Oper := { dst := some 74, op := .load 9 (.tmp 73), type := 9, pos := "l07_store.go:98", after := #[{ on := 5, ground := .data }], guard := none }
abbrev oRecJ5 : Oper := { dst := some 71, op := .buildSlice 61 1 #[(0, .tmp 70)], type := 61, pos := "l07_store.go:98", after := #[{ on := 2, ground := .data }], guard := none }
abbrev oRecJ6 : Oper := { dst := some 72, op := .call { callee := .value (.func 16), args := #[.tmp 71], argTypes := #[61] }, type := 9, pos := "l07_store.go:98", after := #[{ on := 3, ground := .data }], guard := none }
abbrev oRecJ7 : Oper := { dst := some 75, op := .buildSlice 28 3 #[(0, .const (.string { data := #[101] })), (1, .tmp 72), (2, .tmp 74)], type := 28, pos := "l07_store.go:98", after := #[{ on := 4, ground := .data }, { on := 6, ground := .data }], guard := none }
abbrev oRecJ8 : Oper := { dst := some 76, op := .call { callee := .value (.func 15), args := #[.tmp 75], argTypes := #[28] }, type := 9, pos := "l07_store.go:98", after := #[{ on := 7, ground := .data }, { on := 4, ground := .chain }], guard := none }
abbrev oRecJ9 : Oper := { dst := some 77, op := .buildSlice 28 1 #[(0, .tmp 76)], type := 28, pos := "l07_store.go:98", after := #[{ on := 8, ground := .data }], guard := none }
abbrev oRecJ10 : Oper := { dst := some 78, op := .call { callee := .builtin Go.Builtin.append, args := #[.tmp 68, .tmp 77], argTypes := #[28, 28] }, type := 28, pos := "l07_store.go:98", after := #[{ on := 0, ground := .data }, { on := 9, ground := .data }, { on := 8, ground := .chain }], guard := none }
abbrev oRecJ11 : Oper := { dst := some 6, op := .assign (.tmp 78), type := 28, pos := "l07_store.go:98", after := #[{ on := 10, ground := .data }, { on := 10, ground := .chain }, { on := 0, ground := .phase }, { on := 1, ground := .phase }, { on := 2, ground := .phase }, { on := 3, ground := .phase }, { on := 4, ground := .phase }, { on := 5, ground := .phase }, { on := 6, ground := .phase }, { on := 7, ground := .phase }, { on := 8, ground := .phase }, { on := 9, ground := .phase }, { on := 10, ground := .phase }], guard := none }
set_option maxHeartbeats 1000000 in
set_option maxRecDepth 100000 in
theorem irecs_tn (tm vt : Int) (a : Option Addr) (cap n : Nat) (l : List Ent) (HN : Hid (l.length = n)) (hn : n ≤ 1048576) (HSZ : Hid (∀ k (h : k < l.length), l[k].2.size ≤ 1048576)) (tm2 vt2 : Int) (b2 o2 : Nat) (cap2 n2 : Nat) (hcap2 : n2 ≤ cap2) (hcm : cap2 ≤ 9223372036854775807) (m : List Ent) (HN2 : Hid (m.length = n2)) (hn2 : n2 ≤ 1048576) (HSZ2 : Hid (∀ k (h : k < m.length), m[k].2.size ≤ 1048576)) (HT : Hid (¬ tm = tm2)) (HCC : Hid (¬ comN l m < l.length)) (k1 : stateB tm vt l = true) (k2 : stateB tm2 vt2 m = true) (L : List ByteArray) (HL : Hid (L = recsL tm vt l tm2 vt2 m)) (w : World) (hr : RowV w a (cE l)) (hr2 : RowV w (some ⟨b2, o2, none⟩) (cE m)) :
  Calls Tryd.prog 6 #[.agg #[.int .i64 tm, .int .i64 vt, .slice a n cap], .agg #[.int .i64 tm2, .int .i64 vt2, .slice (some ⟨b2, o2, none⟩) n2 cap2]] w fun e w' => ∃ v, e = .returned (.tuple #[v, .int .i64 0]) ∧ w'.ownsRow w.heap.size 9 1 v L.length (cS L) ∧ Below w.heap.size w w' := by
 obtain ⟨i0, hi, hz0, hz1, hz2⟩ := info_parts Tryd.infL9
 have HRW1 := hide hr
 have HRW2 := hide hr2
 have HK1 := hide k1.symm
 have HK2 := hide k2.symm
 have hp1 : n ≤ 60 := by have := (state_parts k1).2.2.1; rw [unhide HN] at this; exact this
 have hp2 : n2 ≤ 60 := by have := (state_parts k2).2.2.1; rw [unhide HN2] at this; exact this
 obtain ⟨t0, t1⟩ := (state_parts k2).1
 obtain ⟨v0, v1⟩ := (state_parts k2).2.1
 have HLOG := hide (state_parts k2).2.2.2
 have HCM := hide (cE_len m)
 obtain ⟨K, hK⟩ : ∃ K, comN l m = K := ⟨_, rfl⟩
 have hkl : K ≤ n ∧ K ≤ n2 := by rw [← unhide HN, ← unhide HN2, ← hK]; exact comN_le l m
 obtain ⟨hk1, hk2⟩ := hkl
 have HK := hide hK
 have hkn : ¬ (K : Int) < (n : Int) := by have := unhide HCC; rw [hK, unhide HN] at this; omega
 have hkd : decide (K < n) = false := decide_eq_false (by omega)
 clear hr hr2 k1 k2 hK
 have B_1 := hide (Go.Joins.below_alloc2 w (.cells #[.int .i64 tm, .int .i64 vt, .slice a n cap] 25) (.cells #[.int .i64 tm2, .int .i64 vt2, .slice (some ⟨b2, o2, none⟩) n2 cap2] 25))
 have A_2 := hide ((BF.new w #[.int .i64 tm, .int .i64 vt, .slice a n cap] 25).alloc (.cells #[.int .i64 tm2, .int .i64 vt2, .slice (some ⟨b2, o2, none⟩) n2 cap2] 25))
 have C_3 := hide (BF.new (w.alloc (.cells #[.int .i64 tm, .int .i64 vt, .slice a n cap] 25)) #[.int .i64 tm2, .int .i64 vt2, .slice (some ⟨b2, o2, none⟩) n2 cap2] 25)
 rw [show (w.alloc (.cells #[.int .i64 tm, .int .i64 vt, .slice a n cap] 25)).heap.size = w.heap.size + 1 from by simp] at C_3
 go_enter Tryd.func6, Tryd.ntmps6
 go_wp2_with fail
 refine (istateok tm vt a cap n l HN hn HSZ true HK1 _ ((unhide HRW1).below (unhide B_1))).mono ?_
 rintro e w1 ⟨rfl, hb⟩
 have B_4 := hide ((unhide B_1).trans (hb.mono (unhide B_1).size))
 clear B_1
 have A_5 := hide ((unhide A_2).below hb)
 clear A_2
 have C_6 := hide ((unhide C_3).below hb)
 clear C_3
 clear hb
 have kA := (unhide A_5).S
 have kC := (unhide C_6).S
 go_wp2_with fail
 refine (istateok tm2 vt2 (some ⟨b2, o2, none⟩) cap2 n2 m HN2 hn2 HSZ2 true HK2 _ ((unhide HRW2).below (unhide B_4))).mono ?_
 rintro e w2 ⟨rfl, hb⟩
 clear kA kC
 have B_7 := hide ((unhide B_4).trans (hb.mono (unhide B_4).size))
 clear B_4
 have A_8 := hide ((unhide A_5).below hb)
 clear A_5
 have C_9 := hide ((unhide C_6).below hb)
 clear C_6
 clear hb
 have kA := (unhide A_8).S
 have kC := (unhide C_9).S
 clear HK1 HK2
 clear kA kC
 have O_10 := hide (unhide (own_as (P := ([] : List ByteArray)) (World.ownsRow_nil w2 (w.heap.size + 2) 9 1) rfl rfl))
 have ht1 : (tm != tm2) = true := by simpa using unhide HT
 have HNI : Hid (RowV (w2.alloc (.cells #[.int .i64 tm2, .int .i64 vt2] 3)) (some ⟨w2.heap.size, 0, none⟩) (cI [tm2, vt2])) := rowZ_at (z := 1) (base := w2.heap.size) (n := 2) (cap := 2) (World.ownsRow_lit (e := 3) (base := w2.heap.size) (size := 1) w2 #[.int .i64 tm2, .int .i64 vt2] 2 (Nat.le_refl _) (by unfold maxLen; omega) rfl)
 have kA := (unhide A_8).S
 have kC := (unhide C_9).S
 have B_11 := hide ((unhide B_7).alloc (unhide B_7).size (.cells #[.int .i64 tm2, .int .i64 vt2] 3))
 clear B_7
 have A_12 := hide ((unhide A_8).alloc (.cells #[.int .i64 tm2, .int .i64 vt2] 3))
 clear A_8
 have C_13 := hide ((unhide C_9).alloc (.cells #[.int .i64 tm2, .int .i64 vt2] 3))
 clear C_9
 have O_14 := hide ((unhide O_10).alloc (.cells #[.int .i64 tm2, .int .i64 vt2] 3))
 clear O_10
 go_wp2_with fail
 refine (inumtext _ 2 [tm2, vt2] (fit2 (by omega) (by omega) (by omega) (by omega)) (by simp) _ (unhide HNI)).mono ?_
 rintro e w3 ⟨rfl, hb⟩
 clear kA kC
 have B_15 := hide ((unhide B_11).trans (hb.mono (unhide B_11).size))
 clear B_11
 have A_16 := hide ((unhide A_12).below hb)
 clear A_12
 have C_17 := hide ((unhide C_13).below hb)
 clear C_13
 have O_18 := hide (((heldZ_of (unhide O_14)).below hb (Nat.le_refl _)).own)
 clear O_14
 clear hb
 clear HNI
 obtain ⟨N1, hN1⟩ : ∃ N1, N1 = recN [tm2, vt2] := ⟨_, rfl⟩
 have HN1 := hide hN1
 have HFS : Hid (∀ x ∈ ([⟨#[116]⟩, N1] : List ByteArray), x.size ≤ 400) := by rw [hN1]; exact f_t _ _
 rw [show (⟨(numsL [tm2, vt2]).toArray⟩ : ByteArray) = N1 from hN1.symm]
 clear hN1
 have HNS : Hid (RowV (w3.alloc (.cells #[.string ⟨#[116]⟩, .string N1] 9)) (some ⟨w3.heap.size, 0, none⟩) (cS [⟨#[116]⟩, N1])) := rowZ_at (z := 1) (base := w3.heap.size) (n := 2) (cap := 2) (World.ownsRow_lit (e := 9) (base := w3.heap.size) (size := 1) w3 #[.string ⟨#[116]⟩, .string N1] 2 (Nat.le_refl _) (by unfold maxLen; omega) rfl)
 have B_19 := hide ((unhide B_15).alloc (unhide B_15).size (.cells #[.string ⟨#[116]⟩, .string N1] 9))
 clear B_15
 have A_20 := hide ((unhide A_16).alloc (.cells #[.string ⟨#[116]⟩, .string N1] 9))
 clear A_16
 have C_21 := hide ((unhide C_17).alloc (.cells #[.string ⟨#[116]⟩, .string N1] 9))
 clear C_17
 have O_22 := hide ((unhide O_18).alloc (.cells #[.string ⟨#[116]⟩, .string N1] 9))
 clear O_18
 go_wp2_with fail
 refine (ifldtext _ 2 [⟨#[116]⟩, N1] (unhide HFS) (by simp) _ (unhide HNS)).mono ?_
 rintro e w4 ⟨rfl, hb⟩
 have B_23 := hide ((unhide B_19).trans (hb.mono (unhide B_19).size))
 clear B_19
 have A_24 := hide ((unhide A_20).below hb)
 clear A_20
 have C_25 := hide ((unhide C_21).below hb)
 clear C_21
 have O_26 := hide (((heldZ_of (unhide O_22)).below hb (Nat.le_refl _)).own)
 clear O_22
 clear hb
 clear HNS HFS
 obtain ⟨X, hX⟩ : ∃ X, X = recT [⟨#[116]⟩, N1] := ⟨_, rfl⟩
 rw [← hX]
 have HX : Hid (X = tRec tm2 vt2) := by show _ = _; rw [hX, unhide HN1]; rfl
 clear hX HN1
 have hown := (unhide O_26)
 have hzb := (unhide B_23).size
 have hzc := (unhide C_25).lt
 go_wp2_with (at_builtin; refine wpList_append_lies _ rfl (.tmp 30) (.tmp 39) 28 rfl (w.heap.size + 2) 9 i0 (.string ⟨#[]⟩) 1 16 Tryd.underlying28 hi hz0 hz1 hz2 rfl (by decide) _ _ _ rfl (hown.alloc _) ⟨w4.heap.size, 0, none⟩ 1 1 (cS [X]) rfl rfl (by exact news_new w4 (cS [X]) 9) (cS_one _) (by decide) (by unfold maxLen; simp; try omega) (by simp; try omega) (by simp; omega) _ rfl ?_; intro g2 c2 w5 hown2 hgrow2 hat2 hlt2; have B_27 := hide (below_app (unhide B_23) (unhide B_23).size hown (by omega) hgrow2); have A_28 := hide (((unhide A_24).alloc _).grown hgrow2 (fun h => by have := (hown.lt _ h).1; omega)); have C_29 := hide (((unhide C_25).alloc _).grown hgrow2 (fun h => by have := (hown.lt _ h).1; omega)); have O_30 := hide (own_appR (l := ([] : List ByteArray)) (m := [X]) hown2 rfl); clear hown2 hgrow2 hat2 hlt2 hown hzb hzc B_23 A_24 C_25 O_26; have kA := (unhide A_28).S; have kC := (unhide C_29).S)
 rw [unhide HX] at O_30
 clear HX
 by_cases hck : cap2 = K
 ·have TOK := trivial
  subst hck
  refine (ialike a (some ⟨b2, o2, none⟩) cap cap2 n n2 l m HN HN2 hp1 hp2 cap2 HK _ ((unhide HRW1).below (unhide B_27)) ((unhide HRW2).below (unhide B_27))).mono ?_
  rintro e w6 ⟨rfl, hb⟩
  clear kA kC
  have B_31 := hide ((unhide B_27).trans (hb.mono (unhide B_27).size))
  clear B_27
  have A_32 := hide ((unhide A_28).below hb)
  clear A_28
  have C_33 := hide ((unhide C_29).below hb)
  clear C_29
  have O_34 := hide (((heldZ_of (unhide O_30)).below hb (Nat.le_refl _)).own)
  clear O_30
  clear hb
  have hc2 : (cap2 : Int) ≤ (n2 : Int) := by omega
  have hP : tPart tm vt tm2 vt2 ++ cPart l m = ([tRec tm2 vt2] ++ []) := by rw [tP_yes (fun h => unhide HT h.1), cP_no (unhide HCC)]
  have O0 := O_34
  obtain ⟨P, hPP⟩ : ∃ P, P = ([tRec tm2 vt2] ++ []) := ⟨_, rfl⟩
  have HO0 := own_as (P := P) (unhide O0) (by rw [hPP]; first | done | rfl) (by rw [hPP]; first | done | rfl)
  have HPL : P.length ≤ 2 := by rw [hPP]; simp
  have HPP : Hid (L = P ++ (m.drop cap2).map eRec) := by show _ = _; rw [unhide HL]; unfold recsL; rw [hP, hPP, unhide HK]
  clear hP hPP O0 O_34
  have kA := (unhide A_32).S
  have kC := (unhide C_33).S
  go_wp2_with fail
  go_loopw [6, 64] (fun v i wr => ∃ (k : Nat) (M : List ByteArray), cap2 + k ≤ n2 ∧ i = .int .i64 k ∧ Hid (M = P ++ ((m.drop cap2).take k).map eRec) ∧ M.length ≤ 2 + k ∧ Hid (wr.ownsRow (w.heap.size + 2) 9 1 v M.length (cS M)) ∧ Hid (Below w.heap.size w wr) ∧ w.heap.size + 2 ≤ wr.heap.size) (fun _ i _ => n2 - cap2 - (intOf i).toNat)
  case atStart => exact ⟨0, P, by omega, rfl, by show _ = _; simp, by omega, HO0, B_31, by have := (unhide C_33).lt; omega⟩
  clear kA kC
  case round =>
   clear HO0 B_31 A_32 C_33
   obtain ⟨k, M, hk, rfl, HM, hML, HO, HB, hz⟩ := hrel
   by_cases hlt : cap2 + k < n2
   ·exfalso; omega
   ·have hM := (unhide HM).trans (map_all P (by rw [unhide HN2]; omega))
    have i1 : ¬ (k : Int) < ((n2 - cap2 : Nat) : Int) := by omega
    obtain rfl : M = L := hM.trans (unhide HPP).symm
    have HO2 := hide (Go.Joins.ownsRow_le (base' := w.heap.size) (unhide HO) (by omega))
    clear hM HO
    go_wp2_with fail
    go_ret2
    exact ⟨_, rfl, unhide HO2, unhide HB⟩
 ·have TOK := trivial
  refine (ialike a (some ⟨b2, o2, none⟩) cap cap2 n n2 l m HN HN2 hp1 hp2 K HK _ ((unhide HRW1).below (unhide B_27)) ((unhide HRW2).below (unhide B_27))).mono ?_
  rintro e w6 ⟨rfl, hb⟩
  clear kA kC
  have B_35 := hide ((unhide B_27).trans (hb.mono (unhide B_27).size))
  clear B_27
  have A_36 := hide ((unhide A_28).below hb)
  clear A_28
  have C_37 := hide ((unhide C_29).below hb)
  clear C_29
  have O_38 := hide (((heldZ_of (unhide O_30)).below hb (Nat.le_refl _)).own)
  clear O_30
  clear hb
  have hc2 : (K : Int) ≤ (n2 : Int) := by omega
  have hP : tPart tm vt tm2 vt2 ++ cPart l m = ([tRec tm2 vt2] ++ []) := by rw [tP_yes (fun h => unhide HT h.1), cP_no (unhide HCC)]
  have O0 := O_38
  obtain ⟨P, hPP⟩ : ∃ P, P = ([tRec tm2 vt2] ++ []) := ⟨_, rfl⟩
  have HO0 := own_as (P := P) (unhide O0) (by rw [hPP]; first | done | rfl) (by rw [hPP]; first | done | rfl)
  have HPL : P.length ≤ 2 := by rw [hPP]; simp
  have HPP : Hid (L = P ++ (m.drop K).map eRec) := by show _ = _; rw [unhide HL]; unfold recsL; rw [hP, hPP, unhide HK]
  clear hP hPP O0 O_38
  have kA := (unhide A_36).S
  have kC := (unhide C_37).S
  go_wp2_with fail
  go_loopw [6, 64] (fun v i wr => ∃ (k : Nat) (M : List ByteArray), K + k ≤ n2 ∧ i = .int .i64 k ∧ Hid (M = P ++ ((m.drop K).take k).map eRec) ∧ M.length ≤ 2 + k ∧ Hid (wr.ownsRow (w.heap.size + 2) 9 1 v M.length (cS M)) ∧ Hid (Below w.heap.size w wr) ∧ w.heap.size + 2 ≤ wr.heap.size) (fun _ i _ => n2 - K - (intOf i).toNat)
  case atStart => exact ⟨0, P, by omega, rfl, by show _ = _; simp, by omega, HO0, B_35, by have := (unhide C_37).lt; omega⟩
  clear kA kC
  case round =>
   clear HO0 B_35 A_36 C_37
   obtain ⟨k, M, hk, rfl, HM, hML, HO, HB, hz⟩ := hrel
   by_cases hlt : K + k < n2
   ·have hlk : K + k < m.length := by rw [unhide HN2]; exact hlt
    obtain ⟨bb, oo, ha, hblt, hc⟩ := (unhide HRW2).at (by rw [unhide HCM, unhide HN2]; omega)
    have hbo : b2 = bb ∧ o2 = oo := by simpa using ha
    obtain ⟨rfl, rfl⟩ := hbo
    clear ha
    obtain ⟨x0, x1⟩ := row_ent hc (K + k) hlk
    obtain ⟨t, et⟩ : ∃ t, t = m[K + k].1 := ⟨_, rfl⟩
    obtain ⟨d, ed⟩ : ∃ d, d = m[K + k].2 := ⟨_, rfl⟩
    have hle := log_ent (by omega) (unhide HLOG) (K + k) hlk
    rw [← et, ← ed] at hle
    obtain ⟨⟨t2, t3⟩, hd4⟩ := hle
    have HFS : Hid (∀ x ∈ ([⟨#[101]⟩, recN [t], d] : List ByteArray), x.size ≤ 400) := f_e t d hd4
    have HE : Hid (m[K + k] = (t, d)) := by show _ = _; rw [et, ed]
    rw [← et] at x0
    rw [← ed] at x1
    have hx0 : wr.cell? ⟨b2, o2 + K * 2 + k * 2, none⟩ = some (.int .i64 t) := by rw [show o2 + K * 2 + k * 2 = o2 + (K + k) * 2 from by omega]; exact ((unhide HB).cell (p := ⟨b2, o2 + (K + k) * 2, none⟩) hblt).trans x0
    have hx1 : wr.cell? ⟨b2, o2 + K * 2 + k * 2 + 1, none⟩ = some (.string d) := by rw [show o2 + K * 2 + k * 2 + 1 = o2 + (K + k) * 2 + 1 from by omega]; exact ((unhide HB).cell (p := ⟨b2, o2 + (K + k) * 2 + 1, none⟩) hblt).trans x1
    have ik0 : (0 : Int) ≤ (k : Int) := by omega
    have i2 : (k : Int) < ((n2 - K : Nat) : Int) := by omega
    clear hc x0 x1 et ed hd4
    have HB1 := hide ((unhide HB).alloc (unhide HB).size (.cells #[.int .i64 t, .string d] 46))
    have HO1 := hide ((unhide HO).alloc (.cells #[.int .i64 t, .string d] 46))
    have BE1 := hide (BF.new wr #[.int .i64 t, .string d] 46)
    have hzw : w.heap.size + 2 ≤ (wr.alloc (.cells #[.int .i64 t, .string d] 46)).heap.size := by simp; omega
    have HAP : Hid (u6.ownBlock ≠ some wr.heap.size) := fun h => by have := ((unhide HO).lt _ h).2; omega
    clear HB HO
    go_wp2_with fail
    refine wp_region_held_drew (S := fun w' => ∀ o, w'.cell? ⟨wr.heap.size, o, none⟩ = (#[.int .i64 t, .string d] : Array Value)[o]?) (by kernel_rfl) (unhide BE1).S (fun hHeld => ?_)
    refine wtv 0 (oi := oRecJ0) ?_
    refine wtv 1 (oi := oRecJ1) ?_
    refine wtv 2 (oi := oRecJ2) ?_
    refine wtv 5 (oi := oRecJ3) ?_
    refine wtv 6 (oi := oRecJ4) ?_
    have BE2 := hide (unhide BE1).drew
    have HB2 := hide (unhide HB1).drew
    have HO2 := hide (unhide HO1).drew
    have hz2' : w.heap.size + 2 ≤ (wr.alloc (.cells #[.int .i64 t, .string d] 46)).drew.heap.size := hzw
    clear BE1 HB1 HO1 hzw
    generalize (wr.alloc (.cells #[.int .i64 t, .string d] 46)).drew = q2 at BE2 HB2 HO2 hz2' hHeld ⊢
    refine wpAnyH_ready (rs := [3]) (by kernel_rfl) (by simp) ?_
    refine AllReadyH.cons (o := oRecJ5) rfl (fun K hK => ?_) AllReadyH.nil
    have BE3 := hide ((unhide BE2).alloc (.cells #[.int .i64 t] 3))
    have HB3 := hide ((unhide HB2).alloc (unhide HB2).size (.cells #[.int .i64 t] 3))
    have HO3 := hide ((unhide HO2).alloc (.cells #[.int .i64 t] 3))
    have HR3 : Hid (RowV (q2.alloc (.cells #[.int .i64 t] 3)) (some ⟨q2.heap.size, 0, none⟩) (cI [t])) := rowZ_at (z := 1) (base := q2.heap.size) (n := 1) (cap := 1) (World.ownsRow_lit (e := 3) (base := q2.heap.size) (size := 1) q2 #[.int .i64 t] 1 (Nat.le_refl _) (by unfold maxLen; omega) rfl)
    have hz3' : w.heap.size + 2 ≤ (q2.alloc (.cells #[.int .i64 t] 3)).heap.size := by simp; omega
    go_simp
    refine hK.out _ _ ?_ (fun hHeld3 => ?_)
    ·exact (unhide BE3).S
    clear hK K
    try simp only [Act.put, qqA, qqB, qqC]
    clear BE2 HB2 HO2 hz2'
    generalize q2.alloc (.cells #[.int .i64 t] 3) = q3 at BE3 HB3 HO3 HR3 hz3' hHeld3 ⊢
    refine wpAnyH_ready (rs := [4]) (by kernel_rfl) (by simp) ?_
    refine AllReadyH.cons (o := oRecJ6) rfl (fun K hK => ?_) AllReadyH.nil
    go_simp
    refine (inumtext _ 1 [t] (fit1 (by omega) (by omega)) (by simp) _ (unhide HR3)).mono ?_
    rintro e q4 ⟨rfl, hb⟩
    have BE4 := hide ((unhide BE3).below hb)
    have HB4 := hide ((unhide HB3).trans (hb.mono (unhide HB3).size))
    have HO4 := hide ((heldZ_of (unhide HO3)).below hb (Nat.le_refl _)).own
    have hz4' : w.heap.size + 2 ≤ q4.heap.size := Nat.le_trans hz3' hb.size
    clear hb BE3 HB3 HO3 hz3'
    go_wp2_with fail
    refine hK.out _ _ ?_ (fun hHeld4 => ?_)
    ·exact (unhide BE4).S
    clear hK K
    try simp only [Act.put, qqA, qqB, qqC]
    clear HR3
    obtain ⟨N1, hN1⟩ : ∃ N1, N1 = recN [t] := ⟨_, rfl⟩
    rw [← hN1] at HFS
    have HN1 := hide hN1
    rw [show (⟨(numsL [t]).toArray⟩ : ByteArray) = N1 from hN1.symm]
    clear hN1
    refine wpAnyH_ready (rs := [7]) (by kernel_rfl) (by simp) ?_
    refine AllReadyH.cons (o := oRecJ7) rfl (fun K hK => ?_) AllReadyH.nil
    have BE5 := hide ((unhide BE4).alloc (.cells #[.string ⟨#[101]⟩, .string N1, .string d] 9))
    have HB5 := hide ((unhide HB4).alloc (unhide HB4).size (.cells #[.string ⟨#[101]⟩, .string N1, .string d] 9))
    have HO5 := hide ((unhide HO4).alloc (.cells #[.string ⟨#[101]⟩, .string N1, .string d] 9))
    have HR5 : Hid (RowV (q4.alloc (.cells #[.string ⟨#[101]⟩, .string N1, .string d] 9)) (some ⟨q4.heap.size, 0, none⟩) (cS [⟨#[101]⟩, N1, d])) := rowZ_at (z := 1) (base := q4.heap.size) (n := 3) (cap := 3) (World.ownsRow_lit (e := 9) (base := q4.heap.size) (size := 1) q4 #[.string ⟨#[101]⟩, .string N1, .string d] 3 (Nat.le_refl _) (by unfold maxLen; omega) rfl)
    have hz5' : w.heap.size + 2 ≤ (q4.alloc (.cells #[.string ⟨#[101]⟩, .string N1, .string d] 9)).heap.size := by simp; omega
    go_simp
    refine hK.out _ _ ?_ (fun hHeld7 => ?_)
    ·exact (unhide BE5).S
    clear hK K
    try simp only [Act.put, qqA, qqB, qqC]
    clear BE4 HB4 HO4 hz4'
    generalize q4.alloc (.cells #[.string ⟨#[101]⟩, .string N1, .string d] 9) = q5 at BE5 HB5 HO5 HR5 hz5' hHeld7 ⊢
    refine wpAnyH_ready (rs := [8]) (by kernel_rfl) (by simp) ?_
    refine AllReadyH.cons (o := oRecJ8) rfl (fun K hK => ?_) AllReadyH.nil
    go_simp
    refine (ifldtext _ 3 [⟨#[101]⟩, N1, d] (unhide HFS) (by simp) _ (unhide HR5)).mono ?_
    rintro e q6 ⟨rfl, hb⟩
    have BE6 := hide ((unhide BE5).below hb)
    have HB6 := hide ((unhide HB5).trans (hb.mono (unhide HB5).size))
    have HO6 := hide ((heldZ_of (unhide HO5)).below hb (Nat.le_refl _)).own
    have hz6' : w.heap.size + 2 ≤ q6.heap.size := Nat.le_trans hz5' hb.size
    clear hb BE5 HB5 HO5 hz5'
    go_wp2_with fail
    refine hK.out _ _ ?_ (fun hHeld8 => ?_)
    ·exact (unhide BE6).S
    clear hK K
    try simp only [Act.put, qqA, qqB, qqC]
    clear HR5 HFS
    obtain ⟨X, hX⟩ : ∃ X, X = recT [⟨#[101]⟩, N1, d] := ⟨_, rfl⟩
    rw [← hX]
    have HX : Hid (X = eRec (t, d)) := by show _ = _; rw [hX, unhide HN1]; rfl
    clear hX HN1
    refine wpAnyH_ready (rs := [9]) (by kernel_rfl) (by simp) ?_
    refine AllReadyH.cons (o := oRecJ9) rfl (fun K hK => ?_) AllReadyH.nil
    have BE7 := hide ((unhide BE6).alloc (.cells #[.string X] 9))
    have HB7 := hide ((unhide HB6).alloc (unhide HB6).size (.cells #[.string X] 9))
    have HO7 := hide ((unhide HO6).alloc (.cells #[.string X] 9))
    have HNW : Hid (∀ j u, (cS [X])[j]? = some u → (q6.alloc (.cells #[.string X] 9)).cell? ((⟨q6.heap.size, 0, none⟩ : Addr).add j) = some u) := news_new q6 (cS [X]) 9
    have hz7' : w.heap.size + 2 ≤ (q6.alloc (.cells #[.string X] 9)).heap.size := by simp; omega
    go_simp
    refine hK.out _ _ ?_ (fun hHeld9 => ?_)
    ·exact (unhide BE7).S
    clear hK K
    try simp only [Act.put, qqA, qqB, qqC]
    clear BE6 HB6 HO6
    obtain ⟨G, hG⟩ : ∃ G, G = q6.heap.size := ⟨_, rfl⟩
    rw [← hG] at HNW ⊢
    clear hG
    generalize q6.alloc (.cells #[.string X] 9) = q7 at BE7 HB7 HO7 HNW hz7' hHeld9 ⊢
    clear hz6'
    refine wpAnyH_ready (rs := [10]) (by kernel_rfl) (by simp) ?_
    refine AllReadyH.cons (o := oRecJ10) rfl (fun K hK => ?_) AllReadyH.nil
    refine step_append_lies _ rfl (.tmp 68) (.tmp 77) 28 rfl (w.heap.size + 2) 9 i0 (.string ⟨#[]⟩) 1 16 Tryd.underlying28 hi hz0 hz1 hz2 rfl (by decide) u6 M.length (cS M) rfl (unhide HO7) ⟨G, 0, none⟩ 1 1 (cS [X]) rfl rfl (unhide HNW) (cS_one _) (by decide) (by unfold maxLen; omega) (by omega) (by omega) _ rfl ?_
    intro g8 c8 q8 hown8 hgrow8 hat8 hlt8
    have HB8 := hide ((unhide HB7).grown hgrow8 (unhide HB7).size (fun k hk => by have := ((unhide HO7).lt k hk).1; omega))
    have HO8 := hide (own_appR (m := [X]) hown8 rfl)
    have hz8' : w.heap.size + 2 ≤ q8.heap.size := Nat.le_trans hz7' hgrow8.size
    have k8 : ∀ o, q8.cell? ⟨wr.heap.size, o, none⟩ = (#[.int .i64 t, .string d] : Array Value)[o]? := fun o => by
     rw [hgrow8.cell_far ⟨wr.heap.size, o, none⟩ (unhide BE7).lt (fun e => unhide HAP (by simpa using e.symm))]; exact (unhide BE7).S o
    refine hK.out _ _ ?_ (fun hHeld10 => ?_)
    ·exact k8
    clear hK K
    try simp only [Act.put, qqA, qqB, qqC]
    clear hown8 hgrow8 hat8 hlt8 BE7 HB7 HO7 HNW
    refine wtv 11 (oi := oRecJ11) ?_
    refine wpAnyH_done (by kernel_rfl) ?_ _
    have HM2 : Hid (M ++ [X] = P ++ ((m.drop K).take (k + 1)).map eRec) := by show _ = _; rw [map_snoc P hlk, ← unhide HM, unhide HE, unhide HX]
    clear k8 HX HE HM
    go_wp2_with fail
    go_roundw
    case rel => exact ⟨k + 1, M ++ [X], by omega, by go_num, HM2, by rw [List.length_append, List.length_singleton]; omega, HO8, HB8, hz8'⟩
    case measure => simp [intOf]; omega
   ·have hM := (unhide HM).trans (map_all P (by rw [unhide HN2]; omega))
    have i1 : ¬ (k : Int) < ((n2 - K : Nat) : Int) := by omega
    obtain rfl : M = L := hM.trans (unhide HPP).symm
    have HO2 := hide (Go.Joins.ownsRow_le (base' := w.heap.size) (unhide HO) (by omega))
    clear hM HO
    go_wp2_with fail
    go_ret2
    exact ⟨_, rfl, unhide HO2, unhide HB⟩
set_option maxHeartbeats 1000000 in
set_option maxRecDepth 100000 in
theorem irecs_tc (tm vt : Int) (a : Option Addr) (cap n : Nat) (l : List Ent) (HN : Hid (l.length = n)) (hn : n ≤ 1048576) (HSZ : Hid (∀ k (h : k < l.length), l[k].2.size ≤ 1048576)) (tm2 vt2 : Int) (b2 o2 : Nat) (cap2 n2 : Nat) (hcap2 : n2 ≤ cap2) (hcm : cap2 ≤ 9223372036854775807) (m : List Ent) (HN2 : Hid (m.length = n2)) (hn2 : n2 ≤ 1048576) (HSZ2 : Hid (∀ k (h : k < m.length), m[k].2.size ≤ 1048576)) (HT : Hid (¬ tm = tm2)) (HCC : Hid (comN l m < l.length)) (k1 : stateB tm vt l = true) (k2 : stateB tm2 vt2 m = true) (L : List ByteArray) (HL : Hid (L = recsL tm vt l tm2 vt2 m)) (w : World) (hr : RowV w a (cE l)) (hr2 : RowV w (some ⟨b2, o2, none⟩) (cE m)) :
  Calls Tryd.prog 6 #[.agg #[.int .i64 tm, .int .i64 vt, .slice a n cap], .agg #[.int .i64 tm2, .int .i64 vt2, .slice (some ⟨b2, o2, none⟩) n2 cap2]] w fun e w' => ∃ v, e = .returned (.tuple #[v, .int .i64 0]) ∧ w'.ownsRow w.heap.size 9 1 v L.length (cS L) ∧ Below w.heap.size w w' := by
 obtain ⟨i0, hi, hz0, hz1, hz2⟩ := info_parts Tryd.infL9
 have HRW1 := hide hr
 have HRW2 := hide hr2
 have HK1 := hide k1.symm
 have HK2 := hide k2.symm
 have hp1 : n ≤ 60 := by have := (state_parts k1).2.2.1; rw [unhide HN] at this; exact this
 have hp2 : n2 ≤ 60 := by have := (state_parts k2).2.2.1; rw [unhide HN2] at this; exact this
 obtain ⟨t0, t1⟩ := (state_parts k2).1
 obtain ⟨v0, v1⟩ := (state_parts k2).2.1
 have HLOG := hide (state_parts k2).2.2.2
 have HCM := hide (cE_len m)
 obtain ⟨K, hK⟩ : ∃ K, comN l m = K := ⟨_, rfl⟩
 have hkl : K ≤ n ∧ K ≤ n2 := by rw [← unhide HN, ← unhide HN2, ← hK]; exact comN_le l m
 obtain ⟨hk1, hk2⟩ := hkl
 have HK := hide hK
 have hkn : (K : Int) < (n : Int) := by have := unhide HCC; rw [hK, unhide HN] at this; omega
 have hkd : decide (K < n) = true := decide_eq_true (by omega)
 clear hr hr2 k1 k2 hK
 have B_1 := hide (Go.Joins.below_alloc2 w (.cells #[.int .i64 tm, .int .i64 vt, .slice a n cap] 25) (.cells #[.int .i64 tm2, .int .i64 vt2, .slice (some ⟨b2, o2, none⟩) n2 cap2] 25))
 have A_2 := hide ((BF.new w #[.int .i64 tm, .int .i64 vt, .slice a n cap] 25).alloc (.cells #[.int .i64 tm2, .int .i64 vt2, .slice (some ⟨b2, o2, none⟩) n2 cap2] 25))
 have C_3 := hide (BF.new (w.alloc (.cells #[.int .i64 tm, .int .i64 vt, .slice a n cap] 25)) #[.int .i64 tm2, .int .i64 vt2, .slice (some ⟨b2, o2, none⟩) n2 cap2] 25)
 rw [show (w.alloc (.cells #[.int .i64 tm, .int .i64 vt, .slice a n cap] 25)).heap.size = w.heap.size + 1 from by simp] at C_3
 go_enter Tryd.func6, Tryd.ntmps6
 go_wp2_with fail
 refine (istateok tm vt a cap n l HN hn HSZ true HK1 _ ((unhide HRW1).below (unhide B_1))).mono ?_
 rintro e w1 ⟨rfl, hb⟩
 have B_4 := hide ((unhide B_1).trans (hb.mono (unhide B_1).size))
 clear B_1
 have A_5 := hide ((unhide A_2).below hb)
 clear A_2
 have C_6 := hide ((unhide C_3).below hb)
 clear C_3
 clear hb
 have kA := (unhide A_5).S
 have kC := (unhide C_6).S
 go_wp2_with fail
 refine (istateok tm2 vt2 (some ⟨b2, o2, none⟩) cap2 n2 m HN2 hn2 HSZ2 true HK2 _ ((unhide HRW2).below (unhide B_4))).mono ?_
 rintro e w2 ⟨rfl, hb⟩
 clear kA kC
 have B_7 := hide ((unhide B_4).trans (hb.mono (unhide B_4).size))
 clear B_4
 have A_8 := hide ((unhide A_5).below hb)
 clear A_5
 have C_9 := hide ((unhide C_6).below hb)
 clear C_6
 clear hb
 have kA := (unhide A_8).S
 have kC := (unhide C_9).S
 clear HK1 HK2
 clear kA kC
 have O_10 := hide (unhide (own_as (P := ([] : List ByteArray)) (World.ownsRow_nil w2 (w.heap.size + 2) 9 1) rfl rfl))
 have ht1 : (tm != tm2) = true := by simpa using unhide HT
 have HNI : Hid (RowV (w2.alloc (.cells #[.int .i64 tm2, .int .i64 vt2] 3)) (some ⟨w2.heap.size, 0, none⟩) (cI [tm2, vt2])) := rowZ_at (z := 1) (base := w2.heap.size) (n := 2) (cap := 2) (World.ownsRow_lit (e := 3) (base := w2.heap.size) (size := 1) w2 #[.int .i64 tm2, .int .i64 vt2] 2 (Nat.le_refl _) (by unfold maxLen; omega) rfl)
 have kA := (unhide A_8).S
 have kC := (unhide C_9).S
 have B_11 := hide ((unhide B_7).alloc (unhide B_7).size (.cells #[.int .i64 tm2, .int .i64 vt2] 3))
 clear B_7
 have A_12 := hide ((unhide A_8).alloc (.cells #[.int .i64 tm2, .int .i64 vt2] 3))
 clear A_8
 have C_13 := hide ((unhide C_9).alloc (.cells #[.int .i64 tm2, .int .i64 vt2] 3))
 clear C_9
 have O_14 := hide ((unhide O_10).alloc (.cells #[.int .i64 tm2, .int .i64 vt2] 3))
 clear O_10
 go_wp2_with fail
 refine (inumtext _ 2 [tm2, vt2] (fit2 (by omega) (by omega) (by omega) (by omega)) (by simp) _ (unhide HNI)).mono ?_
 rintro e w3 ⟨rfl, hb⟩
 clear kA kC
 have B_15 := hide ((unhide B_11).trans (hb.mono (unhide B_11).size))
 clear B_11
 have A_16 := hide ((unhide A_12).below hb)
 clear A_12
 have C_17 := hide ((unhide C_13).below hb)
 clear C_13
 have O_18 := hide (((heldZ_of (unhide O_14)).below hb (Nat.le_refl _)).own)
 clear O_14
 clear hb
 clear HNI
 obtain ⟨N1, hN1⟩ : ∃ N1, N1 = recN [tm2, vt2] := ⟨_, rfl⟩
 have HN1 := hide hN1
 have HFS : Hid (∀ x ∈ ([⟨#[116]⟩, N1] : List ByteArray), x.size ≤ 400) := by rw [hN1]; exact f_t _ _
 rw [show (⟨(numsL [tm2, vt2]).toArray⟩ : ByteArray) = N1 from hN1.symm]
 clear hN1
 have HNS : Hid (RowV (w3.alloc (.cells #[.string ⟨#[116]⟩, .string N1] 9)) (some ⟨w3.heap.size, 0, none⟩) (cS [⟨#[116]⟩, N1])) := rowZ_at (z := 1) (base := w3.heap.size) (n := 2) (cap := 2) (World.ownsRow_lit (e := 9) (base := w3.heap.size) (size := 1) w3 #[.string ⟨#[116]⟩, .string N1] 2 (Nat.le_refl _) (by unfold maxLen; omega) rfl)
 have B_19 := hide ((unhide B_15).alloc (unhide B_15).size (.cells #[.string ⟨#[116]⟩, .string N1] 9))
 clear B_15
 have A_20 := hide ((unhide A_16).alloc (.cells #[.string ⟨#[116]⟩, .string N1] 9))
 clear A_16
 have C_21 := hide ((unhide C_17).alloc (.cells #[.string ⟨#[116]⟩, .string N1] 9))
 clear C_17
 have O_22 := hide ((unhide O_18).alloc (.cells #[.string ⟨#[116]⟩, .string N1] 9))
 clear O_18
 go_wp2_with fail
 refine (ifldtext _ 2 [⟨#[116]⟩, N1] (unhide HFS) (by simp) _ (unhide HNS)).mono ?_
 rintro e w4 ⟨rfl, hb⟩
 have B_23 := hide ((unhide B_19).trans (hb.mono (unhide B_19).size))
 clear B_19
 have A_24 := hide ((unhide A_20).below hb)
 clear A_20
 have C_25 := hide ((unhide C_21).below hb)
 clear C_21
 have O_26 := hide (((heldZ_of (unhide O_22)).below hb (Nat.le_refl _)).own)
 clear O_22
 clear hb
 clear HNS HFS
 obtain ⟨X, hX⟩ : ∃ X, X = recT [⟨#[116]⟩, N1] := ⟨_, rfl⟩
 rw [← hX]
 have HX : Hid (X = tRec tm2 vt2) := by show _ = _; rw [hX, unhide HN1]; rfl
 clear hX HN1
 have hown := (unhide O_26)
 have hzb := (unhide B_23).size
 have hzc := (unhide C_25).lt
 go_wp2_with (at_builtin; refine wpList_append_lies _ rfl (.tmp 30) (.tmp 39) 28 rfl (w.heap.size + 2) 9 i0 (.string ⟨#[]⟩) 1 16 Tryd.underlying28 hi hz0 hz1 hz2 rfl (by decide) _ _ _ rfl (hown.alloc _) ⟨w4.heap.size, 0, none⟩ 1 1 (cS [X]) rfl rfl (by exact news_new w4 (cS [X]) 9) (cS_one _) (by decide) (by unfold maxLen; simp; try omega) (by simp; try omega) (by simp; omega) _ rfl ?_; intro g2 c2 w5 hown2 hgrow2 hat2 hlt2; have B_27 := hide (below_app (unhide B_23) (unhide B_23).size hown (by omega) hgrow2); have A_28 := hide (((unhide A_24).alloc _).grown hgrow2 (fun h => by have := (hown.lt _ h).1; omega)); have C_29 := hide (((unhide C_25).alloc _).grown hgrow2 (fun h => by have := (hown.lt _ h).1; omega)); have O_30 := hide (own_appR (l := ([] : List ByteArray)) (m := [X]) hown2 rfl); clear hown2 hgrow2 hat2 hlt2 hown hzb hzc B_23 A_24 C_25 O_26; have kA := (unhide A_28).S; have kC := (unhide C_29).S)
 rw [unhide HX] at O_30
 clear HX
 by_cases hck : cap2 = K
 ·have TOK := trivial
  subst hck
  refine (ialike a (some ⟨b2, o2, none⟩) cap cap2 n n2 l m HN HN2 hp1 hp2 cap2 HK _ ((unhide HRW1).below (unhide B_27)) ((unhide HRW2).below (unhide B_27))).mono ?_
  rintro e w6 ⟨rfl, hb⟩
  clear kA kC
  have B_31 := hide ((unhide B_27).trans (hb.mono (unhide B_27).size))
  clear B_27
  have A_32 := hide ((unhide A_28).below hb)
  clear A_28
  have C_33 := hide ((unhide C_29).below hb)
  clear C_29
  have O_34 := hide (((heldZ_of (unhide O_30)).below hb (Nat.le_refl _)).own)
  clear O_30
  clear hb
  have hc2 : (cap2 : Int) ≤ (n2 : Int) := by omega
  have HNI : Hid (RowV (w6.alloc (.cells #[.int .i64 (cap2 : Int)] 3)) (some ⟨w6.heap.size, 0, none⟩) (cI [(cap2 : Int)])) := rowZ_at (z := 1) (base := w6.heap.size) (n := 1) (cap := 1) (World.ownsRow_lit (e := 3) (base := w6.heap.size) (size := 1) w6 #[.int .i64 (cap2 : Int)] 1 (Nat.le_refl _) (by unfold maxLen; omega) rfl)
  have kA := (unhide A_32).S
  have kC := (unhide C_33).S
  have B_35 := hide ((unhide B_31).alloc (unhide B_31).size (.cells #[.int .i64 (cap2 : Int)] 3))
  clear B_31
  have A_36 := hide ((unhide A_32).alloc (.cells #[.int .i64 (cap2 : Int)] 3))
  clear A_32
  have C_37 := hide ((unhide C_33).alloc (.cells #[.int .i64 (cap2 : Int)] 3))
  clear C_33
  have O_38 := hide ((unhide O_34).alloc (.cells #[.int .i64 (cap2 : Int)] 3))
  clear O_34
  go_wp2_with fail
  refine (inumtext _ 1 [(cap2 : Int)] (fit1 (by omega) (by omega)) (by simp) _ (unhide HNI)).mono ?_
  rintro e w7 ⟨rfl, hb⟩
  clear kA kC
  have B_39 := hide ((unhide B_35).trans (hb.mono (unhide B_35).size))
  clear B_35
  have A_40 := hide ((unhide A_36).below hb)
  clear A_36
  have C_41 := hide ((unhide C_37).below hb)
  clear C_37
  have O_42 := hide (((heldZ_of (unhide O_38)).below hb (Nat.le_refl _)).own)
  clear O_38
  clear hb
  clear HNI
  obtain ⟨N1, hN1⟩ : ∃ N1, N1 = recN [(cap2 : Int)] := ⟨_, rfl⟩
  have HN1 := hide hN1
  have HFS : Hid (∀ x ∈ ([⟨#[99]⟩, N1] : List ByteArray), x.size ≤ 400) := by rw [hN1]; exact f_c _
  rw [show (⟨(numsL [(cap2 : Int)]).toArray⟩ : ByteArray) = N1 from hN1.symm]
  clear hN1
  have HNS : Hid (RowV (w7.alloc (.cells #[.string ⟨#[99]⟩, .string N1] 9)) (some ⟨w7.heap.size, 0, none⟩) (cS [⟨#[99]⟩, N1])) := rowZ_at (z := 1) (base := w7.heap.size) (n := 2) (cap := 2) (World.ownsRow_lit (e := 9) (base := w7.heap.size) (size := 1) w7 #[.string ⟨#[99]⟩, .string N1] 2 (Nat.le_refl _) (by unfold maxLen; omega) rfl)
  have B_43 := hide ((unhide B_39).alloc (unhide B_39).size (.cells #[.string ⟨#[99]⟩, .string N1] 9))
  clear B_39
  have A_44 := hide ((unhide A_40).alloc (.cells #[.string ⟨#[99]⟩, .string N1] 9))
  clear A_40
  have C_45 := hide ((unhide C_41).alloc (.cells #[.string ⟨#[99]⟩, .string N1] 9))
  clear C_41
  have O_46 := hide ((unhide O_42).alloc (.cells #[.string ⟨#[99]⟩, .string N1] 9))
  clear O_42
  go_wp2_with fail
  refine (ifldtext _ 2 [⟨#[99]⟩, N1] (unhide HFS) (by simp) _ (unhide HNS)).mono ?_
  rintro e w8 ⟨rfl, hb⟩
  have B_47 := hide ((unhide B_43).trans (hb.mono (unhide B_43).size))
  clear B_43
  have A_48 := hide ((unhide A_44).below hb)
  clear A_44
  have C_49 := hide ((unhide C_45).below hb)
  clear C_45
  have O_50 := hide (((heldZ_of (unhide O_46)).below hb (Nat.le_refl _)).own)
  clear O_46
  clear hb
  clear HNS HFS
  obtain ⟨X, hX⟩ : ∃ X, X = recT [⟨#[99]⟩, N1] := ⟨_, rfl⟩
  rw [← hX]
  have HX : Hid (X = cRec cap2) := by show _ = _; rw [hX, unhide HN1]; rfl
  clear hX HN1
  have hown := (unhide O_50)
  have hzb := (unhide B_47).size
  have hzc := (unhide C_49).lt
  go_wp2_with (at_builtin; refine wpList_append_lies _ rfl (.tmp 51) (.tmp 57) 28 rfl (w.heap.size + 2) 9 i0 (.string ⟨#[]⟩) 1 16 Tryd.underlying28 hi hz0 hz1 hz2 rfl (by decide) _ _ _ rfl (hown.alloc _) ⟨w8.heap.size, 0, none⟩ 1 1 (cS [X]) rfl rfl (by exact news_new w8 (cS [X]) 9) (cS_one _) (by decide) (by unfold maxLen; simp; try omega) (by simp; try omega) (by simp; omega) _ rfl ?_; intro g2 c2 w9 hown2 hgrow2 hat2 hlt2; have B_51 := hide (below_app (unhide B_47) (unhide B_47).size hown (by omega) hgrow2); have A_52 := hide (((unhide A_48).alloc _).grown hgrow2 (fun h => by have := (hown.lt _ h).1; omega)); have C_53 := hide (((unhide C_49).alloc _).grown hgrow2 (fun h => by have := (hown.lt _ h).1; omega)); have O_54 := hide (own_appR (l := ([] ++ [tRec tm2 vt2])) (m := [X]) hown2 rfl); clear hown2 hgrow2 hat2 hlt2 hown hzb hzc B_47 A_48 C_49 O_50; have kA := (unhide A_52).S; have kC := (unhide C_53).S)
  rw [unhide HX] at O_54
  clear HX
  have hP : tPart tm vt tm2 vt2 ++ cPart l m = ([tRec tm2 vt2] ++ [cRec cap2]) := by rw [tP_yes (fun h => unhide HT h.1), cP_yes (unhide HCC), unhide HK]
  have O0 := O_54
  obtain ⟨P, hPP⟩ : ∃ P, P = ([tRec tm2 vt2] ++ [cRec cap2]) := ⟨_, rfl⟩
  have HO0 := own_as (P := P) (unhide O0) (by rw [hPP]; first | done | rfl) (by rw [hPP]; first | done | rfl)
  have HPL : P.length ≤ 2 := by rw [hPP]; simp
  have HPP : Hid (L = P ++ (m.drop cap2).map eRec) := by show _ = _; rw [unhide HL]; unfold recsL; rw [hP, hPP, unhide HK]
  clear hP hPP O0 O_54
  go_loopw [6, 64] (fun v i wr => ∃ (k : Nat) (M : List ByteArray), cap2 + k ≤ n2 ∧ i = .int .i64 k ∧ Hid (M = P ++ ((m.drop cap2).take k).map eRec) ∧ M.length ≤ 2 + k ∧ Hid (wr.ownsRow (w.heap.size + 2) 9 1 v M.length (cS M)) ∧ Hid (Below w.heap.size w wr) ∧ w.heap.size + 2 ≤ wr.heap.size) (fun _ i _ => n2 - cap2 - (intOf i).toNat)
  case atStart => exact ⟨0, P, by omega, rfl, by show _ = _; simp, by omega, HO0, B_51, by have := (unhide C_53).lt; omega⟩
  clear kA kC
  case round =>
   clear HO0 B_51 A_52 C_53
   obtain ⟨k, M, hk, rfl, HM, hML, HO, HB, hz⟩ := hrel
   by_cases hlt : cap2 + k < n2
   ·exfalso; omega
   ·have hM := (unhide HM).trans (map_all P (by rw [unhide HN2]; omega))
    have i1 : ¬ (k : Int) < ((n2 - cap2 : Nat) : Int) := by omega
    obtain rfl : M = L := hM.trans (unhide HPP).symm
    have HO2 := hide (Go.Joins.ownsRow_le (base' := w.heap.size) (unhide HO) (by omega))
    clear hM HO
    go_wp2_with fail
    go_ret2
    exact ⟨_, rfl, unhide HO2, unhide HB⟩
 ·have TOK := trivial
  refine (ialike a (some ⟨b2, o2, none⟩) cap cap2 n n2 l m HN HN2 hp1 hp2 K HK _ ((unhide HRW1).below (unhide B_27)) ((unhide HRW2).below (unhide B_27))).mono ?_
  rintro e w6 ⟨rfl, hb⟩
  clear kA kC
  have B_55 := hide ((unhide B_27).trans (hb.mono (unhide B_27).size))
  clear B_27
  have A_56 := hide ((unhide A_28).below hb)
  clear A_28
  have C_57 := hide ((unhide C_29).below hb)
  clear C_29
  have O_58 := hide (((heldZ_of (unhide O_30)).below hb (Nat.le_refl _)).own)
  clear O_30
  clear hb
  have hc2 : (K : Int) ≤ (n2 : Int) := by omega
  have HNI : Hid (RowV (w6.alloc (.cells #[.int .i64 (K : Int)] 3)) (some ⟨w6.heap.size, 0, none⟩) (cI [(K : Int)])) := rowZ_at (z := 1) (base := w6.heap.size) (n := 1) (cap := 1) (World.ownsRow_lit (e := 3) (base := w6.heap.size) (size := 1) w6 #[.int .i64 (K : Int)] 1 (Nat.le_refl _) (by unfold maxLen; omega) rfl)
  have kA := (unhide A_56).S
  have kC := (unhide C_57).S
  have B_59 := hide ((unhide B_55).alloc (unhide B_55).size (.cells #[.int .i64 (K : Int)] 3))
  clear B_55
  have A_60 := hide ((unhide A_56).alloc (.cells #[.int .i64 (K : Int)] 3))
  clear A_56
  have C_61 := hide ((unhide C_57).alloc (.cells #[.int .i64 (K : Int)] 3))
  clear C_57
  have O_62 := hide ((unhide O_58).alloc (.cells #[.int .i64 (K : Int)] 3))
  clear O_58
  go_wp2_with fail
  refine (inumtext _ 1 [(K : Int)] (fit1 (by omega) (by omega)) (by simp) _ (unhide HNI)).mono ?_
  rintro e w7 ⟨rfl, hb⟩
  clear kA kC
  have B_63 := hide ((unhide B_59).trans (hb.mono (unhide B_59).size))
  clear B_59
  have A_64 := hide ((unhide A_60).below hb)
  clear A_60
  have C_65 := hide ((unhide C_61).below hb)
  clear C_61
  have O_66 := hide (((heldZ_of (unhide O_62)).below hb (Nat.le_refl _)).own)
  clear O_62
  clear hb
  clear HNI
  obtain ⟨N1, hN1⟩ : ∃ N1, N1 = recN [(K : Int)] := ⟨_, rfl⟩
  have HN1 := hide hN1
  have HFS : Hid (∀ x ∈ ([⟨#[99]⟩, N1] : List ByteArray), x.size ≤ 400) := by rw [hN1]; exact f_c _
  rw [show (⟨(numsL [(K : Int)]).toArray⟩ : ByteArray) = N1 from hN1.symm]
  clear hN1
  have HNS : Hid (RowV (w7.alloc (.cells #[.string ⟨#[99]⟩, .string N1] 9)) (some ⟨w7.heap.size, 0, none⟩) (cS [⟨#[99]⟩, N1])) := rowZ_at (z := 1) (base := w7.heap.size) (n := 2) (cap := 2) (World.ownsRow_lit (e := 9) (base := w7.heap.size) (size := 1) w7 #[.string ⟨#[99]⟩, .string N1] 2 (Nat.le_refl _) (by unfold maxLen; omega) rfl)
  have B_67 := hide ((unhide B_63).alloc (unhide B_63).size (.cells #[.string ⟨#[99]⟩, .string N1] 9))
  clear B_63
  have A_68 := hide ((unhide A_64).alloc (.cells #[.string ⟨#[99]⟩, .string N1] 9))
  clear A_64
  have C_69 := hide ((unhide C_65).alloc (.cells #[.string ⟨#[99]⟩, .string N1] 9))
  clear C_65
  have O_70 := hide ((unhide O_66).alloc (.cells #[.string ⟨#[99]⟩, .string N1] 9))
  clear O_66
  go_wp2_with fail
  refine (ifldtext _ 2 [⟨#[99]⟩, N1] (unhide HFS) (by simp) _ (unhide HNS)).mono ?_
  rintro e w8 ⟨rfl, hb⟩
  have B_71 := hide ((unhide B_67).trans (hb.mono (unhide B_67).size))
  clear B_67
  have A_72 := hide ((unhide A_68).below hb)
  clear A_68
  have C_73 := hide ((unhide C_69).below hb)
  clear C_69
  have O_74 := hide (((heldZ_of (unhide O_70)).below hb (Nat.le_refl _)).own)
  clear O_70
  clear hb
  clear HNS HFS
  obtain ⟨X, hX⟩ : ∃ X, X = recT [⟨#[99]⟩, N1] := ⟨_, rfl⟩
  rw [← hX]
  have HX : Hid (X = cRec K) := by show _ = _; rw [hX, unhide HN1]; rfl
  clear hX HN1
  have hown := (unhide O_74)
  have hzb := (unhide B_71).size
  have hzc := (unhide C_73).lt
  go_wp2_with (at_builtin; refine wpList_append_lies _ rfl (.tmp 51) (.tmp 57) 28 rfl (w.heap.size + 2) 9 i0 (.string ⟨#[]⟩) 1 16 Tryd.underlying28 hi hz0 hz1 hz2 rfl (by decide) _ _ _ rfl (hown.alloc _) ⟨w8.heap.size, 0, none⟩ 1 1 (cS [X]) rfl rfl (by exact news_new w8 (cS [X]) 9) (cS_one _) (by decide) (by unfold maxLen; simp; try omega) (by simp; try omega) (by simp; omega) _ rfl ?_; intro g2 c2 w9 hown2 hgrow2 hat2 hlt2; have B_75 := hide (below_app (unhide B_71) (unhide B_71).size hown (by omega) hgrow2); have A_76 := hide (((unhide A_72).alloc _).grown hgrow2 (fun h => by have := (hown.lt _ h).1; omega)); have C_77 := hide (((unhide C_73).alloc _).grown hgrow2 (fun h => by have := (hown.lt _ h).1; omega)); have O_78 := hide (own_appR (l := ([] ++ [tRec tm2 vt2])) (m := [X]) hown2 rfl); clear hown2 hgrow2 hat2 hlt2 hown hzb hzc B_71 A_72 C_73 O_74; have kA := (unhide A_76).S; have kC := (unhide C_77).S)
  rw [unhide HX] at O_78
  clear HX
  have hP : tPart tm vt tm2 vt2 ++ cPart l m = ([tRec tm2 vt2] ++ [cRec K]) := by rw [tP_yes (fun h => unhide HT h.1), cP_yes (unhide HCC), unhide HK]
  have O0 := O_78
  obtain ⟨P, hPP⟩ : ∃ P, P = ([tRec tm2 vt2] ++ [cRec K]) := ⟨_, rfl⟩
  have HO0 := own_as (P := P) (unhide O0) (by rw [hPP]; first | done | rfl) (by rw [hPP]; first | done | rfl)
  have HPL : P.length ≤ 2 := by rw [hPP]; simp
  have HPP : Hid (L = P ++ (m.drop K).map eRec) := by show _ = _; rw [unhide HL]; unfold recsL; rw [hP, hPP, unhide HK]
  clear hP hPP O0 O_78
  go_loopw [6, 64] (fun v i wr => ∃ (k : Nat) (M : List ByteArray), K + k ≤ n2 ∧ i = .int .i64 k ∧ Hid (M = P ++ ((m.drop K).take k).map eRec) ∧ M.length ≤ 2 + k ∧ Hid (wr.ownsRow (w.heap.size + 2) 9 1 v M.length (cS M)) ∧ Hid (Below w.heap.size w wr) ∧ w.heap.size + 2 ≤ wr.heap.size) (fun _ i _ => n2 - K - (intOf i).toNat)
  case atStart => exact ⟨0, P, by omega, rfl, by show _ = _; simp, by omega, HO0, B_75, by have := (unhide C_77).lt; omega⟩
  clear kA kC
  case round =>
   clear HO0 B_75 A_76 C_77
   obtain ⟨k, M, hk, rfl, HM, hML, HO, HB, hz⟩ := hrel
   by_cases hlt : K + k < n2
   ·have hlk : K + k < m.length := by rw [unhide HN2]; exact hlt
    obtain ⟨bb, oo, ha, hblt, hc⟩ := (unhide HRW2).at (by rw [unhide HCM, unhide HN2]; omega)
    have hbo : b2 = bb ∧ o2 = oo := by simpa using ha
    obtain ⟨rfl, rfl⟩ := hbo
    clear ha
    obtain ⟨x0, x1⟩ := row_ent hc (K + k) hlk
    obtain ⟨t, et⟩ : ∃ t, t = m[K + k].1 := ⟨_, rfl⟩
    obtain ⟨d, ed⟩ : ∃ d, d = m[K + k].2 := ⟨_, rfl⟩
    have hle := log_ent (by omega) (unhide HLOG) (K + k) hlk
    rw [← et, ← ed] at hle
    obtain ⟨⟨t2, t3⟩, hd4⟩ := hle
    have HFS : Hid (∀ x ∈ ([⟨#[101]⟩, recN [t], d] : List ByteArray), x.size ≤ 400) := f_e t d hd4
    have HE : Hid (m[K + k] = (t, d)) := by show _ = _; rw [et, ed]
    rw [← et] at x0
    rw [← ed] at x1
    have hx0 : wr.cell? ⟨b2, o2 + K * 2 + k * 2, none⟩ = some (.int .i64 t) := by rw [show o2 + K * 2 + k * 2 = o2 + (K + k) * 2 from by omega]; exact ((unhide HB).cell (p := ⟨b2, o2 + (K + k) * 2, none⟩) hblt).trans x0
    have hx1 : wr.cell? ⟨b2, o2 + K * 2 + k * 2 + 1, none⟩ = some (.string d) := by rw [show o2 + K * 2 + k * 2 + 1 = o2 + (K + k) * 2 + 1 from by omega]; exact ((unhide HB).cell (p := ⟨b2, o2 + (K + k) * 2 + 1, none⟩) hblt).trans x1
    have ik0 : (0 : Int) ≤ (k : Int) := by omega
    have i2 : (k : Int) < ((n2 - K : Nat) : Int) := by omega
    clear hc x0 x1 et ed hd4
    have HB1 := hide ((unhide HB).alloc (unhide HB).size (.cells #[.int .i64 t, .string d] 46))
    have HO1 := hide ((unhide HO).alloc (.cells #[.int .i64 t, .string d] 46))
    have BE1 := hide (BF.new wr #[.int .i64 t, .string d] 46)
    have hzw : w.heap.size + 2 ≤ (wr.alloc (.cells #[.int .i64 t, .string d] 46)).heap.size := by simp; omega
    have HAP : Hid (u6.ownBlock ≠ some wr.heap.size) := fun h => by have := ((unhide HO).lt _ h).2; omega
    clear HB HO
    go_wp2_with fail
    refine wp_region_held_drew (S := fun w' => ∀ o, w'.cell? ⟨wr.heap.size, o, none⟩ = (#[.int .i64 t, .string d] : Array Value)[o]?) (by kernel_rfl) (unhide BE1).S (fun hHeld => ?_)
    refine wtv 0 (oi := oRecJ0) ?_
    refine wtv 1 (oi := oRecJ1) ?_
    refine wtv 2 (oi := oRecJ2) ?_
    refine wtv 5 (oi := oRecJ3) ?_
    refine wtv 6 (oi := oRecJ4) ?_
    have BE2 := hide (unhide BE1).drew
    have HB2 := hide (unhide HB1).drew
    have HO2 := hide (unhide HO1).drew
    have hz2' : w.heap.size + 2 ≤ (wr.alloc (.cells #[.int .i64 t, .string d] 46)).drew.heap.size := hzw
    clear BE1 HB1 HO1 hzw
    generalize (wr.alloc (.cells #[.int .i64 t, .string d] 46)).drew = q2 at BE2 HB2 HO2 hz2' hHeld ⊢
    refine wpAnyH_ready (rs := [3]) (by kernel_rfl) (by simp) ?_
    refine AllReadyH.cons (o := oRecJ5) rfl (fun K hK => ?_) AllReadyH.nil
    have BE3 := hide ((unhide BE2).alloc (.cells #[.int .i64 t] 3))
    have HB3 := hide ((unhide HB2).alloc (unhide HB2).size (.cells #[.int .i64 t] 3))
    have HO3 := hide ((unhide HO2).alloc (.cells #[.int .i64 t] 3))
    have HR3 : Hid (RowV (q2.alloc (.cells #[.int .i64 t] 3)) (some ⟨q2.heap.size, 0, none⟩) (cI [t])) := rowZ_at (z := 1) (base := q2.heap.size) (n := 1) (cap := 1) (World.ownsRow_lit (e := 3) (base := q2.heap.size) (size := 1) q2 #[.int .i64 t] 1 (Nat.le_refl _) (by unfold maxLen; omega) rfl)
    have hz3' : w.heap.size + 2 ≤ (q2.alloc (.cells #[.int .i64 t] 3)).heap.size := by simp; omega
    go_simp
    refine hK.out _ _ ?_ (fun hHeld3 => ?_)
    ·exact (unhide BE3).S
    clear hK K
    try simp only [Act.put, qqA, qqB, qqC]
    clear BE2 HB2 HO2 hz2'
    generalize q2.alloc (.cells #[.int .i64 t] 3) = q3 at BE3 HB3 HO3 HR3 hz3' hHeld3 ⊢
    refine wpAnyH_ready (rs := [4]) (by kernel_rfl) (by simp) ?_
    refine AllReadyH.cons (o := oRecJ6) rfl (fun K hK => ?_) AllReadyH.nil
    go_simp
    refine (inumtext _ 1 [t] (fit1 (by omega) (by omega)) (by simp) _ (unhide HR3)).mono ?_
    rintro e q4 ⟨rfl, hb⟩
    have BE4 := hide ((unhide BE3).below hb)
    have HB4 := hide ((unhide HB3).trans (hb.mono (unhide HB3).size))
    have HO4 := hide ((heldZ_of (unhide HO3)).below hb (Nat.le_refl _)).own
    have hz4' : w.heap.size + 2 ≤ q4.heap.size := Nat.le_trans hz3' hb.size
    clear hb BE3 HB3 HO3 hz3'
    go_wp2_with fail
    refine hK.out _ _ ?_ (fun hHeld4 => ?_)
    ·exact (unhide BE4).S
    clear hK K
    try simp only [Act.put, qqA, qqB, qqC]
    clear HR3
    obtain ⟨N1, hN1⟩ : ∃ N1, N1 = recN [t] := ⟨_, rfl⟩
    rw [← hN1] at HFS
    have HN1 := hide hN1
    rw [show (⟨(numsL [t]).toArray⟩ : ByteArray) = N1 from hN1.symm]
    clear hN1
    refine wpAnyH_ready (rs := [7]) (by kernel_rfl) (by simp) ?_
    refine AllReadyH.cons (o := oRecJ7) rfl (fun K hK => ?_) AllReadyH.nil
    have BE5 := hide ((unhide BE4).alloc (.cells #[.string ⟨#[101]⟩, .string N1, .string d] 9))
    have HB5 := hide ((unhide HB4).alloc (unhide HB4).size (.cells #[.string ⟨#[101]⟩, .string N1, .string d] 9))
    have HO5 := hide ((unhide HO4).alloc (.cells #[.string ⟨#[101]⟩, .string N1, .string d] 9))
    have HR5 : Hid (RowV (q4.alloc (.cells #[.string ⟨#[101]⟩, .string N1, .string d] 9)) (some ⟨q4.heap.size, 0, none⟩) (cS [⟨#[101]⟩, N1, d])) := rowZ_at (z := 1) (base := q4.heap.size) (n := 3) (cap := 3) (World.ownsRow_lit (e := 9) (base := q4.heap.size) (size := 1) q4 #[.string ⟨#[101]⟩, .string N1, .string d] 3 (Nat.le_refl _) (by unfold maxLen; omega) rfl)
    have hz5' : w.heap.size + 2 ≤ (q4.alloc (.cells #[.string ⟨#[101]⟩, .string N1, .string d] 9)).heap.size := by simp; omega
    go_simp
    refine hK.out _ _ ?_ (fun hHeld7 => ?_)
    ·exact (unhide BE5).S
    clear hK K
    try simp only [Act.put, qqA, qqB, qqC]
    clear BE4 HB4 HO4 hz4'
    generalize q4.alloc (.cells #[.string ⟨#[101]⟩, .string N1, .string d] 9) = q5 at BE5 HB5 HO5 HR5 hz5' hHeld7 ⊢
    refine wpAnyH_ready (rs := [8]) (by kernel_rfl) (by simp) ?_
    refine AllReadyH.cons (o := oRecJ8) rfl (fun K hK => ?_) AllReadyH.nil
    go_simp
    refine (ifldtext _ 3 [⟨#[101]⟩, N1, d] (unhide HFS) (by simp) _ (unhide HR5)).mono ?_
    rintro e q6 ⟨rfl, hb⟩
    have BE6 := hide ((unhide BE5).below hb)
    have HB6 := hide ((unhide HB5).trans (hb.mono (unhide HB5).size))
    have HO6 := hide ((heldZ_of (unhide HO5)).below hb (Nat.le_refl _)).own
    have hz6' : w.heap.size + 2 ≤ q6.heap.size := Nat.le_trans hz5' hb.size
    clear hb BE5 HB5 HO5 hz5'
    go_wp2_with fail
    refine hK.out _ _ ?_ (fun hHeld8 => ?_)
    ·exact (unhide BE6).S
    clear hK K
    try simp only [Act.put, qqA, qqB, qqC]
    clear HR5 HFS
    obtain ⟨X, hX⟩ : ∃ X, X = recT [⟨#[101]⟩, N1, d] := ⟨_, rfl⟩
    rw [← hX]
    have HX : Hid (X = eRec (t, d)) := by show _ = _; rw [hX, unhide HN1]; rfl
    clear hX HN1
    refine wpAnyH_ready (rs := [9]) (by kernel_rfl) (by simp) ?_
    refine AllReadyH.cons (o := oRecJ9) rfl (fun K hK => ?_) AllReadyH.nil
    have BE7 := hide ((unhide BE6).alloc (.cells #[.string X] 9))
    have HB7 := hide ((unhide HB6).alloc (unhide HB6).size (.cells #[.string X] 9))
    have HO7 := hide ((unhide HO6).alloc (.cells #[.string X] 9))
    have HNW : Hid (∀ j u, (cS [X])[j]? = some u → (q6.alloc (.cells #[.string X] 9)).cell? ((⟨q6.heap.size, 0, none⟩ : Addr).add j) = some u) := news_new q6 (cS [X]) 9
    have hz7' : w.heap.size + 2 ≤ (q6.alloc (.cells #[.string X] 9)).heap.size := by simp; omega
    go_simp
    refine hK.out _ _ ?_ (fun hHeld9 => ?_)
    ·exact (unhide BE7).S
    clear hK K
    try simp only [Act.put, qqA, qqB, qqC]
    clear BE6 HB6 HO6
    obtain ⟨G, hG⟩ : ∃ G, G = q6.heap.size := ⟨_, rfl⟩
    rw [← hG] at HNW ⊢
    clear hG
    generalize q6.alloc (.cells #[.string X] 9) = q7 at BE7 HB7 HO7 HNW hz7' hHeld9 ⊢
    clear hz6'
    refine wpAnyH_ready (rs := [10]) (by kernel_rfl) (by simp) ?_
    refine AllReadyH.cons (o := oRecJ10) rfl (fun K hK => ?_) AllReadyH.nil
    refine step_append_lies _ rfl (.tmp 68) (.tmp 77) 28 rfl (w.heap.size + 2) 9 i0 (.string ⟨#[]⟩) 1 16 Tryd.underlying28 hi hz0 hz1 hz2 rfl (by decide) u6 M.length (cS M) rfl (unhide HO7) ⟨G, 0, none⟩ 1 1 (cS [X]) rfl rfl (unhide HNW) (cS_one _) (by decide) (by unfold maxLen; omega) (by omega) (by omega) _ rfl ?_
    intro g8 c8 q8 hown8 hgrow8 hat8 hlt8
    have HB8 := hide ((unhide HB7).grown hgrow8 (unhide HB7).size (fun k hk => by have := ((unhide HO7).lt k hk).1; omega))
    have HO8 := hide (own_appR (m := [X]) hown8 rfl)
    have hz8' : w.heap.size + 2 ≤ q8.heap.size := Nat.le_trans hz7' hgrow8.size
    have k8 : ∀ o, q8.cell? ⟨wr.heap.size, o, none⟩ = (#[.int .i64 t, .string d] : Array Value)[o]? := fun o => by
     rw [hgrow8.cell_far ⟨wr.heap.size, o, none⟩ (unhide BE7).lt (fun e => unhide HAP (by simpa using e.symm))]; exact (unhide BE7).S o
    refine hK.out _ _ ?_ (fun hHeld10 => ?_)
    ·exact k8
    clear hK K
    try simp only [Act.put, qqA, qqB, qqC]
    clear hown8 hgrow8 hat8 hlt8 BE7 HB7 HO7 HNW
    refine wtv 11 (oi := oRecJ11) ?_
    refine wpAnyH_done (by kernel_rfl) ?_ _
    have HM2 : Hid (M ++ [X] = P ++ ((m.drop K).take (k + 1)).map eRec) := by show _ = _; rw [map_snoc P hlk, ← unhide HM, unhide HE, unhide HX]
    clear k8 HX HE HM
    go_wp2_with fail
    go_roundw
    case rel => exact ⟨k + 1, M ++ [X], by omega, by go_num, HM2, by rw [List.length_append, List.length_singleton]; omega, HO8, HB8, hz8'⟩
    case measure => simp [intOf]; omega
   ·have hM := (unhide HM).trans (map_all P (by rw [unhide HN2]; omega))
    have i1 : ¬ (k : Int) < ((n2 - K : Nat) : Int) := by omega
    obtain rfl : M = L := hM.trans (unhide HPP).symm
    have HO2 := hide (Go.Joins.ownsRow_le (base' := w.heap.size) (unhide HO) (by omega))
    clear hM HO
    go_wp2_with fail
    go_ret2
    exact ⟨_, rfl, unhide HO2, unhide HB⟩
end Go.Proofs.YtkdplhhkkpkmoaaDoor
