/- Recover: what the program answers. -/
import Derived.Test.YtamjljhbnhdgdaaDoorZG15
import Derived.Test.YtamjljhbnhdgdaaDoorZIsX
import Derived.Test.YtamjljhbnhdgdaaDoorZStoI
namespace Go.Proofs.YtamjljhbnhdgdaaDoor
open Go.ChangeShapes Go.WideShapes Go.ChangeAt Go.RowKit
set_option linter.unusedVariables false
theorem put2 {p : Nat} {u0 u1 : Value} (w : World) (h : BF p #[u0, u1] w) (v0 v1 : Value) :
  ∃ w', w' = (w.setCell ⟨p, 0, none⟩ v0).setCell ⟨p, 1, none⟩ v1 ∧ BF p #[v0, v1] w' ∧ (∀ k, k ≠ p → w'.heap[k]? = w.heap[k]?) ∧ Below p w w' := by
 refine ⟨_, rfl, ?_, ?_, ?_⟩
 ·have q1 : BF p #[v0, u1] _ := h.set 0 (by simp) v0
  exact q1.set 1 (by simp) v1
 ·intro k hk; iterate 2 rw [Below.heap_setCell _ _ _ _ hk]
 ·iterate 2 refine Below.setCell ?_ (by exact Nat.le_refl _) _
  exact Below.refl _ _
theorem szs_drop (m : List ByteArray) (k : Nat) (h : k < m.length) : szs (m.drop k) = 7 + m[k].size + szs (m.drop (k + 1)) := by
 rw [List.drop_eq_getElem_cons h]; rfl
theorem apAll_drop (s : Int × Int × List Ent) (m : List ByteArray) (k : Nat) (h : k < m.length) : apAll s (m.drop k) = apAll s (m[k] :: m.drop (k + 1)) := by
 rw [List.drop_eq_getElem_cons h]
set_option maxHeartbeats 8000000 in
set_option maxRecDepth 100000 in
theorem irecov (d : ByteArray) (s : Int) (hd : Hid (d.size ≤ maxLen)) (tm' vt' : Int) (l' : List Ent) (n' : Nat) (d2 : ByteArray) (s2 c : Int) (HIS : Hid (RvIs d s tm' vt' l' d2 s2 c)) (HN' : Hid (l'.length = n')) {xc xb xs x0 x1 x2 x3 x4 : Addr} (w : World) (hE : ErrsIn w) (hX : ErrsX w xc xb xs) (hS : StE w x0 x1 x2 x3 x4) (hn1 : Hid (xb ≠ xc ∧ xs ≠ xc)) (hn2 : Hid (∀ x, x = xb ∨ x = xs → x ≠ x0 ∧ x ≠ x1 ∧ x ≠ x2 ∧ x ≠ x3 ∧ x ≠ x4)) :
  Calls Tryd.prog 10 #[.agg #[.string d, .int .i64 s]] w fun e w' => ∃ v, e = .returned (.tuple #[.agg #[.int .i64 tm', .int .i64 vt', v], .agg #[.string d2, .int .i64 s2], .int .i64 c]) ∧ w'.ownsRow w.heap.size 62 2 v n' (cE l') ∧ Below w.heap.size w w' := by
 have B0 := hide (Go.Joins.below_alloc3 w (.cells #[.string d, .int .i64 s] 31) (.cells #[.int .i64 0, .int .i64 0, .slice none 0 0] 25) (.cells #[.string ⟨#[]⟩, .int .i64 0] 31))
 have A0 := hide (((BF.new w #[.string d, .int .i64 s] 31).alloc (.cells #[.int .i64 0, .int .i64 0, .slice none 0 0] 25)).alloc (.cells #[.string ⟨#[]⟩, .int .i64 0] 31))
 have Z0 := hide ((BF.new (w.alloc (.cells #[.string d, .int .i64 s] 31)) #[.int .i64 0, .int .i64 0, .slice none 0 0] 25).alloc (.cells #[.string ⟨#[]⟩, .int .i64 0] 31))
 have Y0 := hide (BF.new ((w.alloc (.cells #[.string d, .int .i64 s] 31)).alloc (.cells #[.int .i64 0, .int .i64 0, .slice none 0 0] 25)) #[.string ⟨#[]⟩, .int .i64 0] 31)
 simp only [World.size_alloc] at Z0 Y0
 have HE := hide hE
 have HX := hide hX
 have HS := hide hS
 have his := unhide HIS
 unfold RvIs at his
 obtain ⟨R, hR⟩ : ∃ R, R = stoB d s := ⟨_, rfl⟩
 rw [← hR] at his
 have HR := hide hR
 have HI := hide his
 clear hE hX hS hR his HIS
 go_enter Tryd.func10, Tryd.ntmps10
 go_wp2_with fail
 refine (istoreok d s hd R HR _).mono ?_
 rintro e w1 ⟨rfl, hb1⟩
 have B1 := hide ((unhide B0).trans (hb1.mono (unhide B0).size))
 have A1 := hide ((unhide A0).below hb1)
 have Z1 := hide ((unhide Z0).below hb1)
 have Y1 := hide ((unhide Y0).below hb1)
 clear hb1 B0 A0 Z0 Y0
 cases R with
 | false =>
  obtain ⟨rfl, rfl, rfl, rfl, rfl, rfl⟩ : tm' = 0 ∧ vt' = 0 ∧ l' = [] ∧ d2 = ⟨#[]⟩ ∧ s2 = 0 ∧ c = 1 := by have := unhide HI; simpa using this
  obtain rfl : n' = 0 := (unhide HN').symm
  have kz := (unhide Z1).S
  have kzf := (unhide Z1).F
  have ky := (unhide Y1).S
  have kyf := (unhide Y1).F
  go_wp2_with fail
  refine bodyPost_ret (v := .tuple #[.agg #[.int .i64 0, .int .i64 0, .slice none 0 0], .agg #[.string ⟨#[]⟩, .int .i64 0], .int .i64 1]) (by simp [results, Tryd.results10, go_sem, kz, ky]) rfl ⟨_, rfl, World.ownsRow_nil _ _ _ _, ?_⟩
  repeat refine Below.setCell ?_ (by first | (show w.heap.size ≤ w.heap.size + 1; omega) | (show w.heap.size ≤ w.heap.size + 2; omega)) _
  exact unhide B1
 | true =>
  have hd6 : d.size ≤ 60000 := (sto_parts (unhide HR).symm).1
  obtain ⟨sz, hsz⟩ : ∃ sz, sz = d.size := ⟨_, rfl⟩
  obtain ⟨fr, hfr⟩ : ∃ fr, fr = frs d.size d.data.toList := ⟨_, rfl⟩
  have hin : fr.2.1 ≤ 60000 := by rw [hfr]; have := frs_in d.size d.data.toList; rw [sizeT] at this; omega
  have hsm : ∀ x ∈ fr.1, x.size ≤ 65536 := by rw [hfr]; exact frs_small _ _
  have hss : fr.2.1 = szs fr.1 := by rw [hfr]; exact frs_szs _ _
  have hle : fr.1.length ≤ 60000 := by rw [hfr]; have := frs_len d.size d.data.toList; omega
  have hind : fr.2.1 ≤ d.size := by rw [hfr]; have := frs_in d.size d.data.toList; rw [sizeT] at this; omega
  have his2 := unhide HI
  rw [if_neg (by decide), ← hfr] at his2
  have T := iwhole d sz hsz (by omega) w1 ((unhide HX).below (unhide B1)) (unhide hn1)
  rw [hsz, ← hfr] at T
  obtain ⟨m, q, cc⟩ := fr
  simp only at hin hsm hss hle his2 hind
  have HSM := hide hsm
  have HSS := hide hss
  have HLE := hide hle
  have HIN := hide hin
  have HIND := hide hind
  have HI2 := hide his2
  have a1 := (unhide A1).S
  clear hd6 hsz hfr hin hsm hss hle his2 HI hind
  go_wp2_with fail
  refine T.mono ?_
  clear T a1
  rintro e w2 ⟨v, ho, hb2, hor⟩
  obtain ⟨am, cm, rfl, hrm⟩ := own_rowV ho
  have B2 := hide ((unhide B1).trans (hb2.mono (unhide B1).size))
  have A2 := hide ((unhide A1).below hb2)
  have Z2 := hide ((unhide Z1).below hb2)
  have Y2 := hide ((unhide Y1).below hb2)
  have RM := hide hrm
  obtain ⟨kk, hkk⟩ : ∃ kk, kk = m.length := ⟨_, rfl⟩
  have HKK := hide hkk
  have hk6 : kk ≤ 60000 := by rw [hkk]; exact unhide HLE
  simp only at hor ho hrm
  rw [← hkk] at hor ho
  clear hb2 B1 A1 Z1 Y1 ho hrm hkk
  rcases hor with ⟨h8, rfl⟩ | ⟨h8, x, hx, rfl⟩
  ·have hi3 := unhide HI2
   rw [if_neg h8] at hi3
   have HI3 := hide hi3
   obtain ⟨P, hP⟩ : ∃ P, P = w2.heap.size := ⟨_, rfl⟩
   have zl : w.heap.size + 2 < P := by rw [hP]; exact (unhide Y2).lt
   have B3 : Hid (Below P w2 (w2.alloc (.cells #[.int .i64 0, .int .i64 (-1), .slice none 0 0] 25))) := by rw [hP]; exact Go.Joins.below_alloc1 w2 (.cells #[.int .i64 0, .int .i64 (-1), .slice none 0 0] 25)
   have P3 : Hid (BF P #[.int .i64 0, .int .i64 (-1), .slice none 0 0] (w2.alloc (.cells #[.int .i64 0, .int .i64 (-1), .slice none 0 0] 25))) := by rw [hP]; exact BF.new w2 #[.int .i64 0, .int .i64 (-1), .slice none 0 0] 25
   have hPP := hide hP
   clear hi3 HI2 h8
   go_wp2_with fail
   rw [← hP]
   clear hP
   go_loopw [8, 32] (fun qv i wr => ∃ (k z n : Nat) (tm vt : Int) (v : Value) (l : List Ent), k ≤ kk ∧ i = .int .i64 k ∧ qv = .int .i64 (z : Int) ∧ Hid (l.length = n) ∧ Hid (stateB tm vt l = true) ∧ Hid (apAll (tm, vt, l) (m.drop k) = apAll (0, -1, []) m) ∧ Hid (z + szs (m.drop k) = q) ∧ Hid (BF P #[.int .i64 tm, .int .i64 vt, v] wr) ∧ Hid (wr.ownsRow P 62 2 v n (cE l)) ∧ Hid (Below P w2 wr)) (fun _ i _ => kk - (intOf i).toNat)
   case atStart => exact ⟨0, 0, 0, 0, -1, _, [], by omega, rfl, rfl, rfl, state0, rfl, by show _ = _; rw [unhide HSS, List.drop_zero]; omega, P3, World.ownsRow_nil _ _ _ _, B3⟩
   case round =>
    obtain ⟨k, z, n, tm, vt, v, l, hk, rfl, rfl, HN, HST, HAL, HQZ, HP, HO, HB⟩ := hrel
    clear P3 B3
    obtain ⟨a, cap, rfl, -⟩ := ownZ_rowV (unhide HO)
    have HB2 : Hid (Below w2.heap.size w2 wr) := by show Below _ _ _; rw [← unhide hPP]; exact unhide HB
    have BR := hide ((unhide B2).trans ((unhide HB2).mono (unhide B2).size))
    have hn60 : n ≤ 60 := by have h := (state_parts (unhide HST)).2.2.1; have := unhide HN; omega
    have hPw : P < wr.heap.size := (unhide HP).lt
    by_cases hlt : k < kk
    ·have hkm : k < m.length := by rw [← unhide HKK]; exact hlt
     obtain ⟨td, etd⟩ : ∃ td, td = m[k] := ⟨_, rfl⟩
     have htd : td.size ≤ 65536 := by rw [etd]; exact unhide HSM _ (List.getElem_mem hkm)
     have hqz := unhide HQZ
     have hal := unhide HAL
     rw [szs_drop m k hkm, ← etd] at hqz
     rw [apAll_drop _ m k hkm, ← etd] at hal
     obtain ⟨b, off, rfl, hblt, hc⟩ := ((unhide RM).below (unhide HB2)).at (by simp [cS]; omega)
     have hcell : wr.cell? ⟨b, off + k, none⟩ = some (.string td) := hc k _ (by rw [etd]; simp [cS, hkm])
     have E3 := (unhide HE).below (unhide BR)
     have S3 := (unhide HS).below (unhide BR)
     have SK : Hid (∀ w', Below P wr w' → StE w' x0 x1 x2 x3 x4) := fun w' hb => (unhide HS).below ((unhide BR).trans (hb.mono (by omega)))
     have T := istake P tm vt a cap n l HN (by omega) P td htd (ap_fields td htd) (ap_counts td) (ap_state tm vt l td htd (state_sz (unhide HST)) (unhide HST)) wr E3 S3 SK (Nat.le_refl _) (unhide HP) (own_ne2 (unhide HO) (unhide HP)) (unhide HO)
     obtain ⟨ts, ets⟩ : ∃ ts, ts = td.size := ⟨_, rfl⟩
     have la : (td.size : Int) = (ts : Int) := by rw [ets]
     rw [← ets] at hqz
     have HQ2 := hide hqz
     have HAL2 := hide hal
     have hin3 : z + (7 + ts) ≤ 60000 := by have := unhide HIN; omega
     have i1 : (k : Int) < (kk : Int) := by omega
     have i0 : (0 : Int) ≤ (k : Int) := by omega
     have zB := hide (unhide HB)
     clear E3 S3 hqz hal hc etd HQZ HAL HP HO HB htd ets
     go_wp2_with fail
     refine T.mono ?_
     clear T hcell
     rintro e w5 ⟨hto, hb5⟩
     have B5 := hide ((unhide zB).trans hb5)
     have S5 := hide (unhide SK w5 hb5)
     clear hb5 SK
     cases hF : apF tm vt l td with
     | none =>
      rw [hF] at hto
      obtain ⟨⟨x, hx, rfl⟩, hP5, hO5⟩ := hto
      have hi4 := unhide HI3
      rw [← unhide HAL2, apAll_no hF] at hi4
      obtain ⟨rfl, rfl, rfl, rfl, rfl, rfl⟩ : tm' = 0 ∧ vt' = 0 ∧ l' = [] ∧ d2 = ⟨#[]⟩ ∧ s2 = 0 ∧ c = 3 := by simpa using hi4
      obtain rfl : n' = 0 := (unhide HN').symm
      have CODE : Hid (∀ v, StE v x0 x1 x2 x3 x4 → Calls Tryd.prog 20 #[.iface 145 (.pointer (some x))] v fun e w' => e = .returned (.int .i64 3) ∧ w' = v) := by
       intro v hv
       rcases hx with rfl | rfl | rfl
       ·exact icode_0 v hv
       ·exact icode_1 v hv
       ·exact icode_2 v hv
      have Z5 := hide ((unhide Z2).below (by rw [← unhide hPP]; exact unhide B5))
      have Y5 := hide ((unhide Y2).below (by rw [← unhide hPP]; exact unhide B5))
      have BW := hide ((unhide B2).trans (Below.mono (by rw [← unhide hPP] at *; exact unhide B5) (unhide B2).size))
      clear hP5 hO5 hF hi4 hx
      go_wp2_with fail
      refine (unhide CODE _ (unhide S5)).mono ?_
      rintro e v6 ⟨rfl, rfl⟩
      have kz := (unhide Z5).S
      have kzf := (unhide Z5).F
      have ky := (unhide Y5).S
      have kyf := (unhide Y5).F
      go_wp2_with fail
      refine bodyPost_ret (v := .tuple #[.agg #[.int .i64 0, .int .i64 0, .slice none 0 0], .agg #[.string ⟨#[]⟩, .int .i64 0], .int .i64 3]) (by simp [results, Tryd.results10, go_sem, kz, ky]) rfl ⟨_, rfl, World.ownsRow_nil _ _ _ _, ?_⟩
      repeat refine Below.setCell ?_ (by first | (show w.heap.size ≤ w.heap.size + 1; omega) | (show w.heap.size ≤ w.heap.size + 2; omega)) _
      exact unhide BW
     | some s3 =>
      obtain ⟨tm2, vt2, l2⟩ := s3
      rw [hF] at hto
      obtain ⟨rfl, v2, hP5, hO5⟩ := hto
      have HAL3 : Hid (apAll (tm2, vt2, l2) (m.drop (k + 1)) = apAll (0, -1, []) m) := by show _ = _; rw [← unhide HAL2, apAll_yes hF]
      have HST2 := hide (apF_right hF)
      have HP5 := hide hP5
      have HO5 := hide hO5
      clear hP5 hO5 hF
      go_wp2_with fail
      go_roundw
      case rel => exact ⟨k + 1, z + (7 + ts), l2.length, tm2, vt2, v2, l2, by omega, by go_num, by go_num, rfl, HST2, HAL3, by show _ = _; rw [← unhide HQ2]; omega, HP5, HO5, B5⟩
      case measure => simp [intOf]; omega
    ·obtain rfl : k = kk := by omega
     have hqz := unhide HQZ
     have hal := unhide HAL
     rw [List.drop_eq_nil_of_le (by rw [← unhide HKK]; exact Nat.le_refl _)] at hqz hal
     obtain rfl : z = q := hqz
     have hi4 := unhide HI3
     rw [← hal] at hi4
     simp only [apAll] at hi4
     obtain ⟨rfl, rfl, rfl, rfl, rfl, rfl⟩ : tm = tm' ∧ vt = vt' ∧ l = l' ∧ d.extract 0 z = d2 ∧ (z : Int) = s2 ∧ 0 = c := by
      injection hi4 with h1 hi4; injection hi4 with h2 hi4; injection hi4 with h3 hi4; injection hi4 with h4 hi4; injection hi4 with h5 h6
      exact ⟨h1.symm, h2.symm, h3.symm, h4.symm, h5.symm, h6.symm⟩
     obtain rfl : n = n' := (unhide HN).symm.trans (unhide HN')
     have HXS : Hid ((d.extract 0 z).size = z) := by show _ = _; rw [ByteArray.size_extract]; have := unhide HIND; omega
     have HQ6 : Hid (z ≤ 60000) := unhide HIN
     have j0 : (0 : Int) ≤ (z : Int) := by omega
     have j1 : (z : Int) ≤ (d.size : Int) := by have := unhide HIND; omega
     have AR := hide ((unhide A2).below (unhide HB2))
     have ZR := hide ((unhide Z2).below (unhide HB2))
     have YR := hide ((unhide Y2).below (unhide HB2))
     have nz : Hid ((Value.slice a n cap).ownBlock ≠ some (w.heap.size + 1)) := fun h => by have := ((unhide HO).lt _ h).1; omega
     have ny : Hid ((Value.slice a n cap).ownBlock ≠ some (w.heap.size + 2)) := fun h => by have := ((unhide HO).lt _ h).1; omega
     have k16 : (∀ o, wr.cell? ⟨P, o, none⟩ = (#[.int .i64 tm, .int .i64 vt, .slice a n cap] : Array Value)[o]?) ∧ (∀ o, wr.cell? ⟨w.heap.size, o, none⟩ = (#[.string d, .int .i64 s] : Array Value)[o]?) := ⟨(unhide HP).S, (unhide AR).S⟩
     have PD := hide (unhide HP).drew
     have AD := hide (unhide AR).drew
     have ZD := hide (unhide ZR).drew
     have YD := hide (unhide YR).drew
     have BD := hide (unhide BR).drew
     have OD := hide (((heldZ_of (unhide HO)).below (Below.refl _ _).drew (Nat.le_refl _)).own)
     clear hi4 hal HQZ HAL HP HO AR ZR YR BR HB2 HB
     go_wp2_with fail
     refine wp_region_held_drew (S := fun w' => (∀ o, w'.cell? ⟨P, o, none⟩ = (#[.int .i64 tm, .int .i64 vt, .slice a n cap] : Array Value)[o]?) ∧ (∀ o, w'.cell? ⟨w.heap.size, o, none⟩ = (#[.string d, .int .i64 s] : Array Value)[o]?)) (by kernel_rfl) k16 (fun hHeld => ?_)
     generalize wr.drew = v5 at PD AD ZD YD OD BD hHeld ⊢
     refine wtv 0 (oi := { dst := some 50, op := .load 25 (.tmp 7), type := 25, pos := "l07_store.go:254", after := #[], guard := none }) ?_
     refine wtv 1 (oi := { dst := some 51, op := .fieldAddr 31 (.tmp 1) 0, type := 0, pos := "l07_store.go:254", after := #[], guard := none }) ?_
     refine wtv 2 (oi := { dst := some 52, op := .load 9 (.tmp 51), type := 9, pos := "l07_store.go:254", after := #[{ on := 1, ground := .data }], guard := none }) ?_
     refine wtv 3 (oi := { dst := some 53, op := .move (.tmp 8), type := 3, pos := "l07_store.go:254", after := #[], guard := none }) ?_
     refine wtv 4 (oi := { dst := some 54, op := .slice 9 (.tmp 52) none (some (.tmp 53)) none, type := 9, pos := "l07_store.go:254", after := #[{ on := 2, ground := .data }, { on := 3, ground := .data }], guard := none }) ?_
     refine wpAnyH_ready (rs := [5]) (by kernel_rfl) (by simp) ?_
     refine AllReadyH.cons (o := { dst := some 55, op := .call { callee := .value (.func 21), args := #[.tmp 54], argTypes := #[9] }, type := 31, pos := "l07_store.go:254", after := #[{ on := 4, ground := .data }], guard := none }) rfl (fun K hK => ?_) AllReadyH.nil
     go_simp
     refine (isure (d.extract 0 z) z HXS (unhide HQ6) _).mono ?_
     rintro e v6 ⟨rfl, hb6⟩
     have P6 := hide ((unhide PD).below hb6)
     have A6 := hide ((unhide AD).below hb6)
     have Z6 := hide ((unhide ZD).below hb6)
     have Y6 := hide ((unhide YD).below hb6)
     have B6 := hide ((unhide BD).trans (hb6.mono (unhide BD).size))
     have O6 := hide ((heldZ_of (unhide OD)).below hb6 (Nat.le_refl _)).own
     clear hb6 PD AD ZD YD BD OD
     go_wp2_with fail
     refine hK.out _ _ ?_ (fun hHeld5 => ?_)
     ·exact ⟨(unhide P6).S, (unhide A6).S⟩
     clear hK K
     try simp only [Act.put, qqA, qqB, qqC]
     refine wpAnyH_ready (rs := [6]) (by kernel_rfl) (by simp) ?_
     refine AllReadyH.cons (o := { dst := none, op := .store 25 (.tmp 2) (.tmp 50), type := 0, pos := "l07_store.go:254", after := #[{ on := 0, ground := .data }, { on := 5, ground := .chain }, { on := 0, ground := .phase }, { on := 1, ground := .textOnly Go.Departure.lateStores }, { on := 2, ground := .textOnly Go.Departure.lateStores }, { on := 3, ground := .textOnly Go.Departure.lateStores }, { on := 4, ground := .textOnly Go.Departure.lateStoresUnsure }, { on := 5, ground := .textOnly Go.Departure.lateStoresUnsure }], guard := none }) rfl (fun K hK => ?_) AllReadyH.nil
     have kz := (unhide Z6).S
     have kzf := (unhide Z6).F
     obtain ⟨wz, hvz, hFZ, hbz⟩ := put3 v6 (unhide Z6) (.int .i64 tm) (.int .i64 vt) (.slice a n cap)
     have hfz : ∀ k, k ≠ w.heap.size + 1 → wz.heap[k]? = v6.heap[k]? := fun k hk => by rw [hvz]; iterate 3 rw [Below.heap_setCell _ _ _ _ hk]
     have P7 := hide ((unhide P6).keep hbz.size (hfz P (by omega)))
     have A7 := hide ((unhide A6).keep hbz.size (hfz w.heap.size (by omega)))
     have Y7 := hide ((unhide Y6).keep hbz.size (hfz (w.heap.size + 2) (by omega)))
     have O7 := hide (own_far (unhide O6) hfz (unhide nz))
     have B7 := hide ((unhide B6).trans (hbz.mono (Nat.le_succ _)))
     have Z7 := hide hFZ
     go_simp
     rw [← hvz]
     refine hK.out _ _ ?_ (fun hHeld6 => ?_)
     ·exact ⟨(unhide P7).S, (unhide A7).S⟩
     clear hK K
     try simp only [Act.put, qqA, qqB, qqC]
     refine wpAnyH_ready (rs := [7]) (by kernel_rfl) (by simp) ?_
     refine AllReadyH.cons (o := { dst := none, op := .store 31 (.tmp 3) (.tmp 55), type := 0, pos := "l07_store.go:254", after := #[{ on := 5, ground := .data }, { on := 6, ground := .chain }, { on := 0, ground := .phase }, { on := 1, ground := .phase }, { on := 2, ground := .phase }, { on := 3, ground := .phase }, { on := 4, ground := .phase }, { on := 5, ground := .phase }, { on := 6, ground := .phase }], guard := none }) rfl (fun K hK => ?_) AllReadyH.nil
     clear hvz hfz hbz hFZ kz kzf P6 A6 Y6 O6 B6
     have ky := (unhide Y7).S
     have kyf := (unhide Y7).F
     obtain ⟨wy, hvy, hFY, hfy, hby⟩ := put2 wz (unhide Y7) (.string (d.extract 0 z)) (.int .i64 (z : Int))
     have P8 := hide ((unhide P7).keep hby.size (hfy P (by omega)))
     have A8 := hide ((unhide A7).keep hby.size (hfy w.heap.size (by omega)))
     have Z8 := hide ((unhide Z7).keep hby.size (hfy (w.heap.size + 1) (by omega)))
     have O8 := hide (own_far (unhide O7) hfy (unhide ny))
     have B8 := hide ((unhide B7).trans (hby.mono (by omega)))
     go_simp
     rw [← hvy]
     refine hK.out _ _ ?_ (fun hHeld7 => ?_)
     ·exact ⟨(unhide P8).S, (unhide A8).S⟩
     clear hK K
     try simp only [Act.put, qqA, qqB, qqC]
     refine wtv 8 (oi := { dst := some 4, op := .assign (.const (.int .i64 0)), type := 3, pos := "l07_store.go:254", after := #[{ on := 7, ground := .chain }, { on := 0, ground := .phase }, { on := 1, ground := .phase }, { on := 2, ground := .phase }, { on := 3, ground := .phase }, { on := 4, ground := .phase }, { on := 5, ground := .phase }, { on := 6, ground := .phase }, { on := 7, ground := .phase }], guard := none }) ?_
     refine wpAnyH_done (by kernel_rfl) ?_ _
     have kz := (unhide Z8).S
     have ky2 := hFY.S
     clear hvy hfy hby ky kyf
     go_wp2_with fail
     refine bodyPost_ret (v := .tuple #[.agg #[.int .i64 tm, .int .i64 vt, .slice a n cap], .agg #[.string (d.extract 0 z), .int .i64 (z : Int)], .int .i64 0]) (by simp [results, Tryd.results10, go_sem, kz, ky2]) rfl ⟨_, rfl, ?_, unhide B8⟩
     exact own_low (unhide O8) (by omega)
  ·have hi3 := unhide HI2
   rw [if_pos h8] at hi3
   obtain ⟨rfl, rfl, rfl, rfl, rfl, rfl⟩ : tm' = 0 ∧ vt' = 0 ∧ l' = [] ∧ d2 = ⟨#[]⟩ ∧ s2 = 0 ∧ c = 8 := by simpa using hi3
   obtain rfl : n' = 0 := (unhide HN').symm
   have X2 := hide ((unhide HX).below (unhide B2))
   have hbx : ∃ c t, w2.heap[x.block]? = some (.cells c t (0, 0)) := by rcases hx with rfl | rfl; exact (unhide X2).bb; exact (unhide X2).bs
   have T := icodex (q : Int) 8 x w2 ((unhide HS).below (unhide B2)) (unhide X2).type hbx (unhide hn2 x hx)
   clear hi3 HI2 h8 hx hbx
   go_wp2_with fail
   refine T.mono ?_
   rintro e w3 ⟨rfl, hb3⟩
   have B3 := hide ((unhide B2).trans (hb3.mono (unhide B2).size))
   have Z3 := hide ((unhide Z2).below hb3)
   have Y3 := hide ((unhide Y2).below hb3)
   clear hb3 T
   have kz := (unhide Z3).S
   have kzf := (unhide Z3).F
   have ky := (unhide Y3).S
   have kyf := (unhide Y3).F
   go_wp2_with fail
   refine bodyPost_ret (v := .tuple #[.agg #[.int .i64 0, .int .i64 0, .slice none 0 0], .agg #[.string ⟨#[]⟩, .int .i64 0], .int .i64 8]) (by simp [results, Tryd.results10, go_sem, kz, ky]) rfl ⟨_, rfl, World.ownsRow_nil _ _ _ _, ?_⟩
   repeat refine Below.setCell ?_ (by first | (show w.heap.size ≤ w.heap.size + 1; omega) | (show w.heap.size ≤ w.heap.size + 2; omega)) _
   exact unhide B3
end Go.Proofs.YtamjljhbnhdgdaaDoor
