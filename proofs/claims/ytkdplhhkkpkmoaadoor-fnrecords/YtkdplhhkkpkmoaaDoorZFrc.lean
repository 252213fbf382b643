/- At every argument that can be read, with the listed variables as the program text lays them, the law FnRecords returns true and leaves its arguments as they were: the tied card. -/
import Derived.Test.YtkdplhhkkpkmoaaDoorCards
import Derived.Test.YtkdplhhkkpkmoaaDoorTie
import Derived.Test.YtkdplhhkkpkmoaaDoorZG48
import Derived.WalkKit
import Derived.ProofKit
import Derived.OpenShut
import Derived.ShutString
import Derived.ChangeOld
import Derived.Below
import Derived.OpenVars
import Derived.LaidMore
import Derived.Lay
import Derived.Stop.Joined
namespace Go.Proofs.YtkdplhhkkpkmoaaDoor
open Go.ChangeShapes Go.WideShapes Go.ChangeAt Go.RowKit
open Go.ChangeMaps (open_string shut_string)
set_option linter.unusedVariables false

abbrev oFrc0 : Oper := { dst := some 66, op := .call { callee := .value (.func 10), args := #[.tmp 61, .tmp 65], argTypes := #[25, 9] }, type := 33, pos := "laws.go:714", after := #[{ on := 0, ground := .data }, { on := 4, ground := .data }], guard := none }
abbrev oFrc1 : Oper := { dst := some 12, op := .alloc 25, type := 0, pos := "laws.go:714", after := #[], guard := none }
abbrev oFrc2 : Oper := { dst := some 60, op := .move (.tmp 66), type := 33, pos := "laws.go:714", after := #[{ on := 5, ground := .data }], guard := none }
abbrev oFrc3 : Oper := { dst := some 67, op := .extract (.tmp 60) 0, type := 25, pos := "laws.go:714", after := #[{ on := 6, ground := .data }], guard := none }
abbrev oFrc4 : Oper := { dst := some 68, op := .extract (.tmp 60) 1, type := 3, pos := "laws.go:714", after := #[{ on := 6, ground := .data }, { on := 10, ground := .gcOnly Go.Departure.lateStores }], guard := none }
abbrev oFrc5 : Oper := { dst := none, op := .store 25 (.tmp 12) (.tmp 67), type := 0, pos := "laws.go:714", after := #[{ on := 9, ground := .data }, { on := 7, ground := .data }, { on := 5, ground := .chain }, { on := 0, ground := .phase }, { on := 1, ground := .phase }, { on := 2, ground := .phase }, { on := 3, ground := .phase }, { on := 4, ground := .phase }, { on := 5, ground := .phase }, { on := 6, ground := .phase }, { on := 7, ground := .phase }, { on := 8, ground := .textOnly Go.Departure.lateStores }, { on := 9, ground := .phase }], guard := none }
abbrev oFrc6 : Oper := { dst := some 13, op := .assign (.tmp 68), type := 3, pos := "laws.go:714", after := #[{ on := 8, ground := .data }, { on := 10, ground := .chain }, { on := 0, ground := .phase }, { on := 1, ground := .phase }, { on := 2, ground := .phase }, { on := 3, ground := .phase }, { on := 4, ground := .phase }, { on := 5, ground := .phase }, { on := 6, ground := .phase }, { on := 7, ground := .phase }, { on := 8, ground := .phase }, { on := 9, ground := .phase }, { on := 10, ground := .phase }], guard := none }
set_option maxHeartbeats 16000000 in
set_option maxRecDepth 100000 in
theorem walk (w : World) (a0 : Option Addr) (len0 cap0 : Nat) (l0 : List UInt8) (e0 : l0.length = len0) (w0 : Row8 w a0 l0) (a1 : Option Addr) (len1 cap1 : Nat) (l1 : List UInt8) (e1 : l1.length = len1) (w1 : Row8 w a1 l1) (hT : ErrsIn w ∧ ∃ x0 x1 x2 x3 x4, StE w x0 x1 x2 x3 x4) :
  Calls Tryd.prog 3 #[.slice a0 len0 cap0, .slice a1 len1 cap1] w fun e w' => e = .returned (.bool true) ∧ Below w.heap.size w w' := by
 subst e0 e1
 obtain ⟨hE, x0, x1, x2, x3, x4, hS⟩ := hT
 have r0 := w0
 have r1 := row8_V w1
 by_cases big0 : 1048576 < l0.length
 ·have b0 : (1048576 : Int) < (l0.length : Int) := by omega
  clear w0 w1 hE hS r0 r1
  go_enter Tryd.func3, Tryd.ntmps3
  go_wp2_with fail
  go_ret
  exact ⟨rfl, Below.refl _ _⟩
 have b0 : ¬ (1048576 : Int) < (l0.length : Int) := by omega
 by_cases big1 : 1048576 < l1.length
 ·have b1 : (1048576 : Int) < (l1.length : Int) := by omega
  clear w0 w1 hE hS r0 r1
  go_enter Tryd.func3, Tryd.ntmps3
  go_wp2_with fail
  go_ret
  exact ⟨rfl, Below.refl _ _⟩
 have b1 : ¬ (1048576 : Int) < (l1.length : Int) := by omega
 have HS0 : Hid (l0.length ≤ 1048600) := by show _ ≤ _; omega
 have HS1 : Hid (l1.length ≤ 1048600) := by show _ ≤ _; omega
 have HR0 := hide r0
 have HR1 := hide w1
 have HE := hide hE
 have HSE := hide hS
 clear w0 w1 r0 r1 big0 big1 hE hS
 go_enter Tryd.func3, Tryd.ntmps3
 go_wp2_with fail
 refine (sstateOf a0 cap0 l0 (unhide HS0) w (unhide HR0)).mono ?_
 rintro e w2 ⟨tm, vt, va, n, vc, l, rfl, hl, hn, htm, hvt, hlg, ho, hb⟩
 have HN := hide hl
 have HLG := hide hlg
 have hsA : stateB tm vt l = true := state_mk (by omega) hvt hl (by omega) hlg
 have HSA := hide hsA
 have hn40 : n ≤ 40 := by omega
 have htm5 : 0 ≤ tm ∧ tm ≤ 500 := by omega
 have BA := hide hb
 have RA := hide (rowZ_at ho)
 clear hl hlg ho hb hsA
 obtain ⟨P5, hP⟩ : ∃ P, P = w2.heap.size := ⟨_, rfl⟩
 have HP5 := hide hP
 have B0 := hide ((unhide BA).trans ((Go.Joins.below_alloc1 w2 (.cells #[.int .i64 tm, .int .i64 vt, .slice va n vc] 25)).mono (unhide BA).size))
 have Z0 : Hid (BF P5 #[.int .i64 tm, .int .i64 vt, .slice va n vc] (w2.alloc (.cells #[.int .i64 tm, .int .i64 vt, .slice va n vc] 25))) := by show BF _ _ _; rw [hP]; exact BF.new w2 _ _
 have R0 := hide ((unhide RA).below (Go.Joins.below_alloc1 w2 (.cells #[.int .i64 tm, .int .i64 vt, .slice va n vc] 25)))
 have hw5 : w.heap.size ≤ P5 := by rw [hP]; exact (unhide BA).size
 have kz := (BF.new w2 #[.int .i64 tm, .int .i64 vt, .slice va n vc] 25).S
 clear hP BA RA
 go_wp2_with fail
 clear kz
 rw [← unhide HP5]
 generalize w2.alloc (.cells #[.int .i64 tm, .int .i64 vt, .slice va n vc] 25) = w3 at B0 Z0 R0 ⊢
 refine (slaterOf a1 cap1 l1 (unhide HS1) tm vt va vc n l HN hn40 htm5 HLG w3 ((unhide HR1).below (unhide B0)) (unhide R0)).mono ?_
 rintro e w4 ⟨tm2, vt2, vb, n2, vc2, m, rfl, hm, hn2, htm2, hvt2, hlg2, ⟨bb, rfl⟩, ho, hb⟩
 have HM := hide hm
 have hsB : stateB tm2 vt2 m = true := state_mk (by omega) hvt2 hm (by omega) hlg2
 have HSB := hide hsB
 have h35 : P5 < w3.heap.size := (unhide Z0).lt
 have B1 := hide ((unhide B0).trans (hb.mono (unhide B0).size))
 have Z1 := hide ((unhide Z0).below hb)
 have R1 := hide ((unhide R0).below hb)
 have OM1 := hide (Go.Joins.ownsRow_le ho (show P5 + 1 ≤ _ by omega))
 clear hm hlg2 ho hb hsB B0 Z0 R0 h35
 obtain ⟨P6, hP⟩ : ∃ P, P = w4.heap.size := ⟨_, rfl⟩
 have HP6 := hide hP
 have hb6 := Go.Joins.below_alloc1 w4 (.cells #[.int .i64 tm2, .int .i64 vt2, .slice (some ⟨bb, 0, none⟩) n2 vc2] 25)
 have B2 := hide ((unhide B1).trans (hb6.mono (unhide B1).size))
 have Z2 := hide ((unhide Z1).below hb6)
 have R2 := hide ((unhide R1).below hb6)
 have OM2 := hide (own_belowG (unhide OM1) hb6)
 have Y2 : Hid (BF P6 #[.int .i64 tm2, .int .i64 vt2, .slice (some ⟨bb, 0, none⟩) n2 vc2] (w4.alloc (.cells #[.int .i64 tm2, .int .i64 vt2, .slice (some ⟨bb, 0, none⟩) n2 vc2] 25))) := by show BF _ _ _; rw [hP]; exact BF.new w4 _ _
 have h56 : P5 < P6 := by rw [hP]; exact (unhide Z1).lt
 have k5 := (unhide Z2).S
 have k6 := (BF.new w4 #[.int .i64 tm2, .int .i64 vt2, .slice (some ⟨bb, 0, none⟩) n2 vc2] 25).S
 clear hP hb6 B1 Z1 R1 OM1
 go_wp2_with fail
 clear k5 k6
 rw [← unhide HP6]
 generalize w4.alloc (.cells #[.int .i64 tm2, .int .i64 vt2, .slice (some ⟨bb, 0, none⟩) n2 vc2] 25) = w5 at B2 Z2 R2 OM2 Y2 ⊢
 obtain ⟨L, hL⟩ : ∃ L, L = recsL tm vt l tm2 vt2 m := ⟨_, rfl⟩
 have HIS : Hid (RecIs tm vt l tm2 vt2 m L 0) := .inl ⟨unhide HSA, unhide HSB, hL, rfl⟩
 have hLl : L.length ≤ 62 := by rw [hL]; have := recsL_len tm vt l tm2 vt2 m; have := unhide HM; omega
 have HSH : Hid (∀ k (h : k < L.length), L[k].size ≤ 65536) := fun k h => recs_short (unhide HSB) _ (by rw [← hL]; exact List.getElem_mem h)
 have HAP : Hid (apAll (tm, vt, l) (L.drop 0) = some (tm2, vt2, m)) := by show _ = _; rw [List.drop_zero, hL]; exact recs_lead (unhide HSA) (unhide HSB) (by omega)
 have HZA := hide (state_szs (unhide HSA)).1
 have HZB := hide (state_szs (unhide HSB)).1
 have hvc2 : n2 ≤ vc2 := own_capQ (unhide OM2)
 clear hL
 have hcm2 : vc2 ≤ 9223372036854775807 := own_capM (unhide OM2)
 have k5 := (unhide Z2).S
 have k6 := (unhide Y2).S
 go_wp2_with fail
 clear k5 k6
 refine (irecs tm vt va vc n l HN (by omega) HZA tm2 vt2 bb 0 vc2 n2 hvc2 hcm2 m HM (by omega) HZB L 0 HIS w5 (unhide R2) (rowZ_at (unhide OM2))).mono ?_
 rintro e w6 ⟨v, rfl, ho, hb⟩
 obtain ⟨aL, cL, rfl, -⟩ := own_rowV ho
 have h55 : P5 < w5.heap.size := (unhide Z2).lt
 have B3 := hide ((unhide B2).trans (hb.mono (unhide B2).size))
 have Z3 := hide ((unhide Z2).below hb)
 have R3 := hide ((unhide R2).below hb)
 have OM3 := hide (own_belowG (unhide OM2) hb)
 have Y3 := hide ((unhide Y2).below hb)
 have OL3 := hide (Go.Joins.ownsRow_le ho (show P5 + 1 ≤ _ by omega))
 have k5 := (unhide Z3).S
 have k6 := (unhide Y3).S
 clear ho hb B2 Z2 R2 OM2 Y2 h55
 go_wp2_with fail
 clear k5 k6
 refine (srecs tm vt va vc n l HN (by omega) HZA tm2 vt2 bb 0 vc2 n2 m HM (by omega) HZB L 0 HIS w6 (unhide R3) (rowZ_at (unhide OM3))).mono ?_
 rintro e w7 ⟨v, rfl, ho, hb⟩
 obtain ⟨aW, cW, rfl, -⟩ := own_rowV ho
 have B4 := hide ((unhide B3).trans (hb.mono (unhide B3).size))
 have Z4 := hide ((unhide Z3).below hb)
 have R4 := hide ((unhide R3).below hb)
 have OM4 := hide (own_belowG (unhide OM3) hb)
 have Y4 := hide ((unhide Y3).below hb)
 have OL4 := hide (own_belowG (unhide OL3) hb)
 have RW4 := hide (row_at ho)
 have k6 := (unhide Y4).S
 clear ho hb B3 Z3 R3 OM3 Y3 OL3
 go_wp2_with fail
 refine (sameTexts aL aW cL cW L (by omega) w7 (row_at (unhide OL4)) (unhide RW4)).mono ?_
 rintro e w8 ⟨rfl, hb⟩
 have B5 := hide ((unhide B4).trans (hb.mono (unhide B4).size))
 have Z5 := hide ((unhide Z4).below hb)
 have R5 := hide ((unhide R4).below hb)
 have OM5 := hide (own_belowG (unhide OM4) hb)
 have Y5 := hide ((unhide Y4).below hb)
 have OL5 := hide (own_belowG (unhide OL4) hb)
 clear k6 hb B4 Z4 R4 OM4 Y4 OL4 RW4
 have k6 := (unhide Y5).S
 go_wp2_with fail
 clear k6
 refine (istateok tm2 vt2 (some ⟨bb, 0, none⟩) vc2 n2 m HM (by omega) HZB true (unhide HSB).symm w8 (rowZ_at (unhide OM5))).mono ?_
 rintro e w9 ⟨rfl, hb⟩
 have B6 := hide ((unhide B5).trans (hb.mono (unhide B5).size))
 have Z6 := hide ((unhide Z5).below hb)
 have R6 := hide ((unhide R5).below hb)
 have OM6 := hide (own_belowG (unhide OM5) hb)
 have Y6 := hide ((unhide Y5).below hb)
 have OL6 := hide (own_belowG (unhide OL5) hb)
 clear hb B5 Z5 R5 OM5 Y5 OL5
 go_wp2_with fail
 have HN60 : Hid (n ≤ 60) := by show _ ≤ _; omega
 go_loopw [11] (fun i wr => ∃ (k : Nat) (tmc vtc : Int) (ac : Option Addr) (nc cc : Nat) (lc : List Ent), k ≤ L.length ∧ i = .int .i64 (k : Int) ∧ Hid (lc.length = nc) ∧ Hid (stateB tmc vtc lc = true) ∧ Hid (apAll (tmc, vtc, lc) (L.drop k) = some (tm2, vt2, m)) ∧ Hid (Below w.heap.size w wr) ∧ Hid (BF P5 #[.int .i64 tmc, .int .i64 vtc, .slice ac nc cc] wr) ∧ Hid (RowV wr ac (cE lc)) ∧ Hid (wr.ownsRow (P5 + 1) 46 2 (.slice (some ⟨bb, 0, none⟩) n2 vc2) n2 (cE m)) ∧ Hid (BF P6 #[.int .i64 tm2, .int .i64 vt2, .slice (some ⟨bb, 0, none⟩) n2 vc2] wr) ∧ Hid (wr.ownsRow (P5 + 1) 9 1 (.slice aL L.length cL) L.length (cS L))) (fun i _ => L.length - (intOf i).toNat)
 case atStart => exact ⟨0, tm, vt, va, n, vc, l, Nat.zero_le _, rfl, HN, HSA, HAP, B6, Z6, R6, OM6, Y6, OL6⟩
 case round =>
  clear HAP B6 Z6 R6 OM6 Y6 OL6 HSA HZA HN HIS
  obtain ⟨k, tmc, vtc, ac, nc, cc, lc, hk, rfl, HNC, HSC, HAP, B6, Z6, R6, OM6, Y6, OL6⟩ := hrel
  by_cases hlt : k < L.length
  ·have hlt' : (k : Int) < (L.length : Int) := by omega
   have hlt0 : (0 : Int) ≤ (k : Int) := by omega
   obtain ⟨tmn, vtn, ln, his, hsn, han⟩ := ap_next (unhide HAP) hlt (unhide HSC) (unhide HSH k hlt)
   have HIN := hide his
   have HSN := hide hsn
   have HAN := hide han
   obtain ⟨nn, hnn⟩ : ∃ nn, ln.length = nn := ⟨_, rfl⟩
   have HNN := hide hnn
   have hn60 : nn ≤ 60 := by rw [← hnn]; exact (state_szs hsn).2
   have hc60 : nc ≤ 60 := by have := (state_szs (unhide HSC)).2; have := unhide HNC; omega
   have HZC := hide (state_szs (unhide HSC)).1
   obtain ⟨t, ht⟩ : ∃ t, t = L[k] := ⟨_, rfl⟩
   rw [← ht] at his
   have HIT : Hid (ApIs tmc vtc lc t tmn vtn ln 0) := his
   have htz : t.size ≤ 65536 := by rw [ht]; exact unhide HSH k hlt
   have HTK := hide ht
   obtain ⟨bL, oL, haL, hbL, hcL⟩ := (row_at (unhide OL6)).at (by rw [cS_len]; omega)
   subst haL
   have x0' : wr.cell? ⟨bL, oL + k, none⟩ = some (.string t) := by rw [ht]; exact hcL k _ (cS_at L k hlt)
   have h5r : P5 < wr.heap.size := (unhide Z6).lt
   clear his hsn han hnn hcL hbL ht
   have z5 := (unhide Z6).S
   go_wp2_with fail
   refine wp_region_held_drew (S := fun w' => (∀ o, w'.cell? ⟨P5, o, none⟩ = (#[.int .i64 tmc, .int .i64 vtc, .slice ac nc cc] : Array Value)[o]?) ∧ w'.cell? ⟨bL, oL + k, none⟩ = some (.string t)) (by kernel_rfl) ⟨z5, x0'⟩ (fun hHeld => ?_)
   clear z5
   have B7 := hide (unhide B6).drew
   have Z7 := hide (unhide Z6).drew
   have OM7 := hide (own_belowG (unhide OM6) ((Below.refl wr.heap.size wr).drew))
   have Y7 := hide (unhide Y6).drew
   have OL7 := hide (own_belowG (unhide OL6) ((Below.refl wr.heap.size wr).drew))
   have R7 := hide ((unhide R6).below ((Below.refl wr.heap.size wr).drew))
   have x7 : wr.drew.cell? ⟨bL, oL + k, none⟩ = some (.string t) := x0'
   have h5q : P5 < wr.drew.heap.size := h5r
   have XL : Hid (∀ w' : World, w'.ownsRow (P5 + 1) 9 1 (.slice (some ⟨bL, oL, none⟩) L.length cL) L.length (cS L) → w'.cell? ⟨bL, oL + k, none⟩ = some (.string t)) := fun w' h => by
    obtain ⟨b', o', e', _, hc'⟩ := (row_at h).at (by rw [cS_len]; omega)
    injection e' with e'; injection e' with e1 e2
    subst e1 e2
    rw [unhide HTK]; exact hc' k _ (cS_at L k hlt)
   clear B6 Z6 OM6 Y6 OL6 R6 x0' h5r
   generalize wr.drew = v0 at B7 Z7 OM7 Y7 OL7 R7 x7 h5q hHeld ⊢
   refine wtk (i := 0) (oi := { dst := some 61, op := .load 25 (.tmp 5), type := 25, pos := "laws.go:714", after := #[], guard := none }) (v := ?_) rfl (Or.inl ⟨by rfl, ?_⟩) (by assumption) ?_
   rotate_left 1
   ·(intro w' hSw; (try dsimp only at hSw); obtain ⟨z5, x7⟩ := hSw; go_simp; try with_reducible rfl)
   try simp only [Act.put, qqA, qqB, qqC]
   refine wtk (i := 1) (oi := { dst := some 62, op := .move (.tmp 7), type := 28, pos := "laws.go:714", after := #[], guard := none }) (v := ?_) rfl (Or.inl ⟨by rfl, ?_⟩) (by assumption) ?_
   rotate_left 1
   ·(intro w' hSw; (try dsimp only at hSw); obtain ⟨z5, x7⟩ := hSw; go_simp; try with_reducible rfl)
   try simp only [Act.put, qqA, qqB, qqC]
   refine wtk (i := 2) (oi := { dst := some 63, op := .move (.tmp 11), type := 3, pos := "laws.go:714", after := #[], guard := none }) (v := ?_) rfl (Or.inl ⟨by rfl, ?_⟩) (by assumption) ?_
   rotate_left 1
   ·(intro w' hSw; (try dsimp only at hSw); obtain ⟨z5, x7⟩ := hSw; go_simp; try with_reducible rfl)
   try simp only [Act.put, qqA, qqB, qqC]
   refine wtk (i := 3) (oi := { dst := some 64, op := .indexAddr 28 (.tmp 62) (.tmp 63), type := 0, pos := "laws.go:714", after := #[{ on := 1, ground := .data }, { on := 2, ground := .data }], guard := none }) (v := ?_) rfl (Or.inl ⟨by rfl, ?_⟩) (by assumption) ?_
   rotate_left 1
   ·(intro w' hSw; (try dsimp only at hSw); obtain ⟨z5, x7⟩ := hSw; go_simp; try with_reducible rfl)
   try simp only [Act.put, qqA, qqB, qqC]
   refine wtk (i := 4) (oi := { dst := some 65, op := .load 9 (.tmp 64), type := 9, pos := "laws.go:714", after := #[{ on := 3, ground := .data }], guard := none }) (v := ?_) rfl (Or.inl ⟨by rfl, ?_⟩) (by assumption) ?_
   rotate_left 1
   ·(intro w' hSw; (try dsimp only at hSw); obtain ⟨z5, x7⟩ := hSw; go_simp; try with_reducible rfl)
   try simp only [Act.put, qqA, qqB, qqC]
   refine wpAnyH_ready (rs := [5, 9]) (by kernel_rfl) (by simp) ?_
   refine AllReadyH.cons (o := oFrc0) rfl (fun K hK => ?_) (AllReadyH.cons (o := oFrc1) rfl (fun K hK => ?_) AllReadyH.nil)
   ·go_simp
    refine (iapply tmc vtc ac cc nc lc HNC (by omega) HZC t t.size rfl (by omega) (fun h => ap_fields t h) (fun _ => ap_counts t) (fun h hs => ap_state tmc vtc lc t h (unhide HZC) hs) tmn vtn ln nn 0 HIT HNN v0 ((unhide HE).below (unhide B7 |> fun h => h)) ((unhide HSE).below (unhide B7 |> fun h => h)) (unhide R7)).mono ?_
    rintro e v1 ⟨v, rfl, ho, hb⟩
    obtain ⟨an, cn, rfl, -⟩ := ownZ_rowV ho
    have B8 := hide ((unhide B7).trans (hb.mono (unhide B7).size))
    have Z8 := hide ((unhide Z7).below hb)
    have OM8 := hide (own_belowG (unhide OM7) hb)
    have Y8 := hide ((unhide Y7).below hb)
    have OL8 := hide (own_belowG (unhide OL7) hb)
    clear B7 Z7 OM7 Y7 OL7
    have ON8 := hide (Go.Joins.ownsRow_le ho (show P5 + 1 ≤ _ by omega))
    clear ho hb R7
    go_wp2_with fail
    refine hK.out _ _ ?_ (fun hHeld5 => ?_)
    ·exact ⟨(unhide Z8).S, unhide XL _ (unhide OL8)⟩
    clear hK K
    try simp only [Act.put, qqA, qqB, qqC]
    refine wtv 6 (oi := oFrc2) ?_
    refine wtv 7 (oi := oFrc3) ?_
    refine wtv 8 (oi := oFrc4) ?_
    refine wpAnyH_ready (rs := [9]) (by kernel_rfl) (by simp) ?_
    refine AllReadyH.cons (o := oFrc1) rfl (fun K hK => ?_) AllReadyH.nil
    have HA12 : Hid ((∀ j, (Value.slice (some ⟨bb, 0, none⟩) n2 vc2).ownBlock = some j → j ≠ v1.heap.size) ∧ (∀ j, (Value.slice (some ⟨bL, oL, none⟩) L.length cL).ownBlock = some j → j ≠ v1.heap.size) ∧ (∀ j, (Value.slice an nn cn).ownBlock = some j → j ≠ v1.heap.size)) :=
     ⟨fun j hj => Nat.ne_of_lt ((unhide OM8).lt j hj).2, fun j hj => Nat.ne_of_lt ((unhide OL8).lt j hj).2, fun j hj => Nat.ne_of_lt ((unhide ON8).lt j hj).2⟩
    have hb7 := Go.Joins.below_alloc1 v1 (.cells #[.int .i64 0, .int .i64 0, .slice none 0 0] 25)
    obtain ⟨P12, hP⟩ : ∃ P, P = v1.heap.size := ⟨_, rfl⟩
    have M9 : Hid (BF P12 #[.int .i64 0, .int .i64 0, .slice none 0 0] (v1.alloc (.cells #[.int .i64 0, .int .i64 0, .slice none 0 0] 25))) := by show BF _ _ _; rw [hP]; exact BF.new v1 _ _
    have h512 : P5 < P12 := by rw [hP]; exact (unhide Z8).lt
    have h612 : P6 < P12 := by rw [hP]; exact (unhide Y8).lt
    have h6s : v1.heap.size < (v1.alloc (.cells #[.int .i64 0, .int .i64 0, .slice none 0 0] 25)).heap.size := by simp
    have B9 := hide ((unhide B8).trans (hb7.mono (unhide B8).size))
    have Z9 := hide ((unhide Z8).below hb7)
    have OM9 := hide (own_belowG (unhide OM8) hb7)
    have Y9 := hide ((unhide Y8).below hb7)
    have OL9 := hide (own_belowG (unhide OL8) hb7)
    have ON9 := hide (own_belowG (unhide ON8) hb7)
    clear B8 Z8 OM8 Y8 OL8 ON8
    go_simp
    rw [← hP] at HA12
    rw [← hP]
    clear hb7 hP
    generalize v1.alloc (.cells #[.int .i64 0, .int .i64 0, .slice none 0 0] 25) = v2 at B9 Z9 OM9 Y9 OL9 ON9 M9 h6s ⊢
    refine hK.out _ _ ?_ (fun hHeld9 => ?_)
    ·exact ⟨(unhide Z9).S, unhide XL _ (unhide OL9)⟩
    clear hK K
    try simp only [Act.put, qqA, qqB, qqC]
    refine wpAnyH_ready (rs := [10]) (by kernel_rfl) (by simp) ?_
    refine AllReadyH.cons (o := oFrc5) rfl (fun K hK => ?_) AllReadyH.nil
    have km := (unhide M9).S
    have kmf := (unhide M9).F
    obtain ⟨wq, hwq⟩ : ∃ wq, wq = (((v2.setCell ⟨P12, 0, none⟩ (.int .i64 tmn)).setCell ⟨P12, 1, none⟩ (.int .i64 vtn)).setCell ⟨P12, 2, none⟩ (.slice an nn cn)) := ⟨_, rfl⟩
    have hq : ∀ j, j ≠ P12 → wq.heap[j]? = v2.heap[j]? := fun j hj => by rw [hwq]; exact (Below.heap_setCell _ _ _ _ hj).trans ((Below.heap_setCell _ _ _ _ hj).trans (Below.heap_setCell _ _ _ _ hj))
    have hqs : v2.heap.size ≤ wq.heap.size := by rw [hwq]; simp
    have hA12 := unhide HA12
    have Bq : Hid (Below w.heap.size w wq) := by rw [hwq]; exact (((unhide B9).setCell (p := ⟨P12, 0, none⟩) (by show w.heap.size ≤ P12; omega) _).setCell (p := ⟨P12, 1, none⟩) (by show w.heap.size ≤ P12; omega) _).setCell (p := ⟨P12, 2, none⟩) (by show w.heap.size ≤ P12; omega) _
    have Zq := hide ((unhide Z9).keep hqs (hq P5 (by omega)))
    have Yq := hide ((unhide Y9).keep hqs (hq P6 (by omega)))
    have OMq := hide (own_keepG (unhide OM9) (fun j hj => hq j (hA12.1 j hj)))
    have OLq := hide (own_keepG (unhide OL9) (fun j hj => hq j (hA12.2.1 j hj)))
    have ONq := hide (own_keepG (unhide ON9) (fun j hj => hq j (hA12.2.2 j hj)))
    have Mq : Hid (BF P12 #[.int .i64 tmn, .int .i64 vtn, .slice an nn cn] wq) := by rw [hwq]; exact (((unhide M9).set 0 (by simp) _).set 1 (by simp) _).set 2 (by simp) _
    go_simp
    rw [← hwq]
    clear hwq hq hqs hA12 B9 Z9 OM9 Y9 OL9 ON9 M9 km kmf
    refine hK.out _ _ ?_ (fun hHeld10 => ?_)
    ·exact ⟨(unhide Zq).S, unhide XL _ (unhide OLq)⟩
    clear hK K
    try simp only [Act.put, qqA, qqB, qqC]
    refine wtv 11 (oi := oFrc6) ?_
    refine wpAnyH_done (by kernel_rfl) ?_ _
    have km := (unhide Mq).S
    have kz := (unhide Zq).S
    have kzf := (unhide Zq).F
    go_wp2_with fail
    clear km kz kzf
    have h5n : P5 < P5 + 1 := by omega
    go_roundw
    case rel =>
     refine ⟨k + 1, tmn, vtn, an, nn, cn, ln, hlt, by go_num, HNN, HSN, HAN, ?_, ?_, ?_, ?_, ?_, ?_⟩
     ·exact (((unhide Bq).setCell (p := ⟨P5, 0, none⟩) (by show w.heap.size ≤ P5; omega) _).setCell (p := ⟨P5, 1, none⟩) (by show w.heap.size ≤ P5; omega) _).setCell (p := ⟨P5, 2, none⟩) (by show w.heap.size ≤ P5; omega) _
     ·exact (((unhide Zq).set 0 (by simp) _).set 1 (by simp) _).set 2 (by simp) _
     ·refine rowZ_at (base := P5 + 1) (e := 46) (z := 2) (n := nn) (cap := cn) ?_
      iterate 3 refine ownsRow_setCell_below ?_ h5n _
      exact unhide ONq
     ·show World.ownsRow _ _ _ _ _ _ _
      iterate 3 refine ownsRow_setCell_below ?_ h5n _
      exact unhide OMq
     ·exact (((unhide Yq).far ⟨P5, 0, none⟩ _ (by show P5 ≠ P6; omega)).far ⟨P5, 1, none⟩ _ (by show P5 ≠ P6; omega)).far ⟨P5, 2, none⟩ _ (by show P5 ≠ P6; omega)
     ·show World.ownsRow _ _ _ _ _ _ _
      iterate 3 refine ownsRow_setCell_below ?_ h5n _
      exact unhide OLq
    case measure => simp [intOf]; omega
   ·have HOQ : Hid ((∀ j, (Value.slice (some ⟨bb, 0, none⟩) n2 vc2).ownBlock = some j → j ≠ v0.heap.size) ∧ (∀ j, (Value.slice (some ⟨bL, oL, none⟩) L.length cL).ownBlock = some j → j ≠ v0.heap.size)) := ⟨fun j hj => Nat.ne_of_lt ((unhide OM7).lt j hj).2, fun j hj => Nat.ne_of_lt ((unhide OL7).lt j hj).2⟩
    have hb7 := Go.Joins.below_alloc1 v0 (.cells #[.int .i64 0, .int .i64 0, .slice none 0 0] 25)
    obtain ⟨P12, hP⟩ : ∃ P, P = v0.heap.size := ⟨_, rfl⟩
    have M8 : Hid (BF P12 #[.int .i64 0, .int .i64 0, .slice none 0 0] (v0.alloc (.cells #[.int .i64 0, .int .i64 0, .slice none 0 0] 25))) := by show BF _ _ _; rw [hP]; exact BF.new v0 _ _
    have h512 : P5 < P12 := by rw [hP]; exact (unhide Z7).lt
    have h612 : P6 < P12 := by rw [hP]; exact (unhide Y7).lt
    have h6s : v0.heap.size < (v0.alloc (.cells #[.int .i64 0, .int .i64 0, .slice none 0 0] 25)).heap.size := by simp
    have B8 := hide ((unhide B7).trans (hb7.mono (unhide B7).size))
    have Z8 := hide ((unhide Z7).below hb7)
    have OM8 := hide (own_belowG (unhide OM7) hb7)
    have Y8 := hide ((unhide Y7).below hb7)
    have OL8 := hide (own_belowG (unhide OL7) hb7)
    have R8 := hide ((unhide R7).below hb7)
    clear B7 Z7 OM7 Y7 OL7 R7
    go_simp
    rw [← hP] at HOQ
    rw [← hP]
    clear hb7 hP
    generalize v0.alloc (.cells #[.int .i64 0, .int .i64 0, .slice none 0 0] 25) = v1 at B8 Z8 OM8 Y8 OL8 R8 M8 h6s ⊢
    refine hK.out _ _ ?_ (fun hHeld9 => ?_)
    ·exact ⟨(unhide Z8).S, unhide XL _ (unhide OL8)⟩
    clear hK K
    try simp only [Act.put, qqA, qqB, qqC]
    refine wpAnyH_ready (rs := [5]) (by kernel_rfl) (by simp) ?_
    refine AllReadyH.cons (o := oFrc0) rfl (fun K hK => ?_) AllReadyH.nil
    have HO12 : Hid ((∀ j, (Value.slice (some ⟨bb, 0, none⟩) n2 vc2).ownBlock = some j → j ≠ P12) ∧ (∀ j, (Value.slice (some ⟨bL, oL, none⟩) L.length cL).ownBlock = some j → j ≠ P12)) := HOQ
    have h12s : P12 < v1.heap.size := (unhide M8).lt
    go_simp
    refine (iapply tmc vtc ac cc nc lc HNC (by omega) HZC t t.size rfl (by omega) (fun h => ap_fields t h) (fun _ => ap_counts t) (fun h hs => ap_state tmc vtc lc t h (unhide HZC) hs) tmn vtn ln nn 0 HIT HNN v1 ((unhide HE).below (unhide B8 |> fun h => h)) ((unhide HSE).below (unhide B8 |> fun h => h)) (unhide R8)).mono ?_
    rintro e v2 ⟨v, rfl, ho, hb⟩
    obtain ⟨an, cn, rfl, -⟩ := ownZ_rowV ho
    have B9 := hide ((unhide B8).trans (hb.mono (unhide B8).size))
    have Z9 := hide ((unhide Z8).below hb)
    have OM9 := hide (own_belowG (unhide OM8) hb)
    have Y9 := hide ((unhide Y8).below hb)
    have OL9 := hide (own_belowG (unhide OL8) hb)
    have M9 := hide ((unhide M8).below hb)
    clear B8 Z8 OM8 Y8 OL8 M8
    have ON9 := hide (Go.Joins.ownsRow_le ho (show P5 + 1 ≤ _ by omega))
    have HA12 : Hid ((∀ j, (Value.slice (some ⟨bb, 0, none⟩) n2 vc2).ownBlock = some j → j ≠ P12) ∧ (∀ j, (Value.slice (some ⟨bL, oL, none⟩) L.length cL).ownBlock = some j → j ≠ P12) ∧ (∀ j, (Value.slice an nn cn).ownBlock = some j → j ≠ P12)) := ⟨(unhide HO12).1, (unhide HO12).2, fun j hj => by have := (ho.lt j hj).1; omega⟩
    clear ho hb R8
    go_wp2_with fail
    refine hK.out _ _ ?_ (fun hHeld5 => ?_)
    ·exact ⟨(unhide Z9).S, unhide XL _ (unhide OL9)⟩
    clear hK K
    try simp only [Act.put, qqA, qqB, qqC]
    refine wtv 6 (oi := oFrc2) ?_
    refine wtv 7 (oi := oFrc3) ?_
    refine wtv 8 (oi := oFrc4) ?_
    refine wpAnyH_ready (rs := [10]) (by kernel_rfl) (by simp) ?_
    refine AllReadyH.cons (o := oFrc5) rfl (fun K hK => ?_) AllReadyH.nil
    have km := (unhide M9).S
    have kmf := (unhide M9).F
    obtain ⟨wq, hwq⟩ : ∃ wq, wq = (((v2.setCell ⟨P12, 0, none⟩ (.int .i64 tmn)).setCell ⟨P12, 1, none⟩ (.int .i64 vtn)).setCell ⟨P12, 2, none⟩ (.slice an nn cn)) := ⟨_, rfl⟩
    have hq : ∀ j, j ≠ P12 → wq.heap[j]? = v2.heap[j]? := fun j hj => by rw [hwq]; exact (Below.heap_setCell _ _ _ _ hj).trans ((Below.heap_setCell _ _ _ _ hj).trans (Below.heap_setCell _ _ _ _ hj))
    have hqs : v2.heap.size ≤ wq.heap.size := by rw [hwq]; simp
    have hA12 := unhide HA12
    have Bq : Hid (Below w.heap.size w wq) := by rw [hwq]; exact (((unhide B9).setCell (p := ⟨P12, 0, none⟩) (by show w.heap.size ≤ P12; omega) _).setCell (p := ⟨P12, 1, none⟩) (by show w.heap.size ≤ P12; omega) _).setCell (p := ⟨P12, 2, none⟩) (by show w.heap.size ≤ P12; omega) _
    have Zq := hide ((unhide Z9).keep hqs (hq P5 (by omega)))
    have Yq := hide ((unhide Y9).keep hqs (hq P6 (by omega)))
    have OMq := hide (own_keepG (unhide OM9) (fun j hj => hq j (hA12.1 j hj)))
    have OLq := hide (own_keepG (unhide OL9) (fun j hj => hq j (hA12.2.1 j hj)))
    have ONq := hide (own_keepG (unhide ON9) (fun j hj => hq j (hA12.2.2 j hj)))
    have Mq : Hid (BF P12 #[.int .i64 tmn, .int .i64 vtn, .slice an nn cn] wq) := by rw [hwq]; exact (((unhide M9).set 0 (by simp) _).set 1 (by simp) _).set 2 (by simp) _
    go_simp
    rw [← hwq]
    clear hwq hq hqs hA12 B9 Z9 OM9 Y9 OL9 ON9 M9 km kmf
    refine hK.out _ _ ?_ (fun hHeld10 => ?_)
    ·exact ⟨(unhide Zq).S, unhide XL _ (unhide OLq)⟩
    clear hK K
    try simp only [Act.put, qqA, qqB, qqC]
    refine wtv 11 (oi := oFrc6) ?_
    refine wpAnyH_done (by kernel_rfl) ?_ _
    have km := (unhide Mq).S
    have kz := (unhide Zq).S
    have kzf := (unhide Zq).F
    go_wp2_with fail
    clear km kz kzf
    have h5n : P5 < P5 + 1 := by omega
    go_roundw
    case rel =>
     refine ⟨k + 1, tmn, vtn, an, nn, cn, ln, hlt, by go_num, HNN, HSN, HAN, ?_, ?_, ?_, ?_, ?_, ?_⟩
     ·exact (((unhide Bq).setCell (p := ⟨P5, 0, none⟩) (by show w.heap.size ≤ P5; omega) _).setCell (p := ⟨P5, 1, none⟩) (by show w.heap.size ≤ P5; omega) _).setCell (p := ⟨P5, 2, none⟩) (by show w.heap.size ≤ P5; omega) _
     ·exact (((unhide Zq).set 0 (by simp) _).set 1 (by simp) _).set 2 (by simp) _
     ·refine rowZ_at (base := P5 + 1) (e := 46) (z := 2) (n := nn) (cap := cn) ?_
      iterate 3 refine ownsRow_setCell_below ?_ h5n _
      exact unhide ONq
     ·show World.ownsRow _ _ _ _ _ _ _
      iterate 3 refine ownsRow_setCell_below ?_ h5n _
      exact unhide OMq
     ·exact (((unhide Yq).far ⟨P5, 0, none⟩ _ (by show P5 ≠ P6; omega)).far ⟨P5, 1, none⟩ _ (by show P5 ≠ P6; omega)).far ⟨P5, 2, none⟩ _ (by show P5 ≠ P6; omega)
     ·show World.ownsRow _ _ _ _ _ _ _
      iterate 3 refine ownsRow_setCell_below ?_ h5n _
      exact unhide OLq
    case measure => simp [intOf]; omega
  ·have hlt' : ¬ (k : Int) < (L.length : Int) := by omega
   obtain ⟨rfl, rfl, rfl⟩ : tmc = tm2 ∧ vtc = vt2 ∧ lc = m := by
    have h := unhide HAP
    rw [List.drop_of_length_le (by omega), apAll_nil] at h
    injection h with h; injection h with h1 h; injection h with h2 h3
    exact ⟨h1, h2, h3⟩
   have HSM : Hid (SameIs tmc vtc lc tmc vtc lc true 0) := .inl ⟨unhide HSB, unhide HSB, (decide_eq_true ⟨rfl, rfl, rfl⟩).symm, rfl⟩
   have hc60 : nc ≤ 60 := by have := (state_szs (unhide HSC)).2; have := unhide HNC; omega
   have k5 := (unhide Z6).S
   have k6 := (unhide Y6).S
   go_wp2_with fail
   clear k5 k6
   refine (isame tmc vtc ac cc nc lc HNC (by omega) HZB tmc vtc (some ⟨bb, 0, none⟩) vc2 n2 lc HM (by omega) HZB true 0 HSM wr (unhide R6) (rowZ_at (unhide OM6))).mono ?_
   rintro e wz ⟨rfl, hb⟩
   have BZ := (unhide B6).trans (hb.mono (unhide B6).size)
   go_wp2_with fail
   go_ret
   exact ⟨rfl, BZ⟩

theorem own : ownKnob Tryd.prog.godebug = none := by kernel_rfl
theorem laidOut : laidOutB Tryd.prog = true := by kernel_rfl
theorem door_met (os : Os) (args : Array Value) : laidMetH Tryd.prog Rows.fnRecordsRow.laid ((World.doorLaid Tryd.prog 168 os).forCall (fun _ _ => 0) ⟨#[], args, []⟩).memory :=
 laidMetH_of_parts3 (fuel := 8) (laidMet_of_run' 8 (by kernel_rfl) (by kernel_rfl)) (by kernel_rfl) (by kernel_rfl)
set_option maxRecDepth 100000 in
theorem lifted (os : Os) (started : os.Started) (H : Type) (enc : TypeId × Value → H) :
  ReturnsInHanded {} Tryd.checked os 3 .any (fun w args => (Rows.fnRecordsSpec.pre enc Tryd.prog Tryd.f3 [] false w args ∧ laidMetH Tryd.prog Rows.fnRecordsRow.laid w) ∧ sizedMet enc Tryd.prog Tryd.f3 (OpenSpec.ofChange Rows.fnRecordsSpec) false w args)
   (Rows.fnRecordsSpec.post enc Tryd.prog Tryd.f3 false true false false) := by
 refine returnsInHanded_of_change_and (C := Tryd.checked) (X := fun w _ => laidMetH Tryd.prog Rows.fnRecordsRow.laid w) (fun _ _ _ hh h => h.of_heap hh) own started (by kernel_rfl) Tryd.func3
  (ChangeSpec.witness_shaped (enc := enc) (C := Tryd.checked) (os := os) (X := fun w _ => laidMetH Tryd.prog Rows.fnRecordsRow.laid w) false (World.doorLaid Tryd.prog 168 os) #[.slice none 0 0, .slice none 0 0] 8 rfl (World.shaped_of_RefB (by kernel_rfl) (by kernel_rfl)) (by kernel_rfl) (by kernel_rfl) (by kernel_rfl) (door_met os _)) ?_
 intro W base args ds gs before hval0 hW _ _ hL _
 have hval : ∀ (j : Nat) t v, Tryd.f3.params[j]? = some t → args[j]? = some v → Value.okWide Tryd.prog W .any base t v := hval0
 have hW' := hW
 obtain ⟨p, q, hA0, hV, rfl, hfz, hnd⟩ := hW
 have hA : DataW.TrodAll enc Tryd.prog W 0 (fun _ => true) true Tryd.f3.params.toList args.toList ds p := hA0
 rw [Tryd.params3] at hA hval
 obtain ⟨v0, vs0, d0, ds0, p0, q0, hargs, rfl, rfl, h0, r0⟩ := trodAll_cons hA
 obtain ⟨v1, vs1, d1, ds1, p1, q1, rfl, rfl, rfl, h1, r1⟩ := trodAll_cons r0
 obtain ⟨rfl, rfl, rfl⟩ := trodAll_nil r1
 obtain rfl : args = #[v0, v1] := by cases args; simp_all
 obtain ⟨g1, g2, g3, g4, g5, g6, g7, g8, rfl⟩ : ∃ d1x d2x d3x d4x d5x d6x d7x d8x, gs = [d1x, d2x, d3x, d4x, d5x, d6x, d7x, d8x] := vars_len8 hV
 have k0 := h0
 have lt0 : ∀ x ∈ p0, x.block < W.heap.size := by obtain ⟨m, hm⟩ := k0; exact DataW.trod_lt m _ _ _ hm
 have k1 := h1
 have lt1 : ∀ x ∈ p1, x.block < W.heap.size := by obtain ⟨m, hm⟩ := k1; exact DataW.trod_lt m _ _ _ hm
 obtain ⟨a0, len0, cap0, rfl⟩ := okWide_slice Tryd.underlying22 (hval 0 22 v0 rfl rfl)
 obtain ⟨l0, e0, w0⟩ : ∃ l : List UInt8, l.length = len0 ∧ Row8 W a0 l := by
  obtain ⟨fuel, hf⟩ := h0
  rcases open_ints Tryd.underlying22 Tryd.underlying5 (by kernel_rfl) hf with ⟨hcs, _⟩ | ⟨x, l, c, zs, hcs, _, hl, hm, hz, _, hcell, hwz⟩
  ·simp [Value.cells] at hcs
   obtain ⟨rfl, rfl, rfl⟩ := hcs
   exact ⟨[], rfl, .inl rfl⟩
  ·simp [Value.cells] at hcs
   obtain ⟨rfl, rfl, rfl⟩ := hcs
   exact row8_ints hl (by simpa using hz) hcell hwz
 obtain ⟨a1, len1, cap1, rfl⟩ := okWide_slice Tryd.underlying22 (hval 1 22 v1 rfl rfl)
 obtain ⟨l1, e1, w1⟩ : ∃ l : List UInt8, l.length = len1 ∧ Row8 W a1 l := by
  obtain ⟨fuel, hf⟩ := h1
  rcases open_ints Tryd.underlying22 Tryd.underlying5 (by kernel_rfl) hf with ⟨hcs, _⟩ | ⟨x, l, c, zs, hcs, _, hl, hm, hz, _, hcell, hwz⟩
  ·simp [Value.cells] at hcs
   obtain ⟨rfl, rfl, rfl⟩ := hcs
   exact ⟨[], rfl, .inl rfl⟩
  ·simp [Value.cells] at hcs
   obtain ⟨rfl, rfl, rfl⟩ := hcs
   exact row8_ints hl (by simpa using hz) hcell hwz
 have hT := errs_laidF hL
 clear hA0 hval0
 refine (walk W a0 len0 cap0 l0 e0 w0 a1 len1 cap1 l1 e1 w1 hT).mono fun e W' ⟨he, bel⟩ => ?_
 subst he
 exact ⟨_, rfl, _, _, _, [], _, _, hW', trodAll_mk1 (shut_bool Tryd.underlying4 _), (trodAll_cons_mk (Below.trod laidOut (by kernel_rfl) (of_decide_eq_true (by kernel_rfl)) k0 bel lt0) (trodAll_cons_mk (Below.trod laidOut (by kernel_rfl) (of_decide_eq_true (by kernel_rfl)) k1 bel lt1) trodAll_mk0)), Below.trodVars laidOut bel (by kernel_rfl) hV, bel.frame _, fun h => by cases h⟩

theorem said : Rows.FnRecordsSaid :=
 OpenClaim.holds_of_wide 3 Tryd.f3 rfl rfl rfl rfl rfl rfl rfl ⟨rfl, rfl, rfl, rfl, rfl⟩ rfl rfl rfl rfl rfl (by kernel_rfl) Tryd.func3 (by kernel_rfl)
  (of_decide_eq_true (by kernel_rfl)) (by unfold Func.isWrapper; first | (rw [if_pos (by decide +kernel)]; kernel_rfl) | (rw [if_neg (by decide +kernel)]; exact ⟨rfl, rfl⟩))
  (fun os started H enc _ => lifted os started H enc)

theorem card : Rows.FnRecordsCardSaid :=
 Claim7.holds_tied_plain_at .later [] _ _ _ _ said (fun _ h => by cases h) (by kernel_rfl) (fun _ h => by cases h) fnRecords_row_tie rfl ⟨rfl, rfl⟩ (by kernel_rfl) rfl
  (fun f fn hf hfn => by
   obtain rfl : f = 3 := Option.some.inj ((show Tryd.prog.funcNamed Tryd.f3.name = some 3 by kernel_rfl).symm.trans hf) |>.symm
   obtain rfl : fn = Tryd.f3 := (Option.some.inj (Tryd.func3.symm.trans hfn)).symm
   exact ⟨by kernel_rfl, fun j t ht => by
    rw [Tryd.params3] at ht
    have hm : t ∈ [22, 22] := by simpa using Array.mem_of_getElem? ht
    have hall : ([22, 22].all fun u => !Tryd.prog.wantsStandIn u) = true := by kernel_rfl
    exact (show Tryd.prog.wantsStandIn t = false by simpa using List.all_eq_true.1 hall t hm)⟩)
  (by kernel_rfl)
#print axioms card
end Go.Proofs.YtkdplhhkkpkmoaaDoor
