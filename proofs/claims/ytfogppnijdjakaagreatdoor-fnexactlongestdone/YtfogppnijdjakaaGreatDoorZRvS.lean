/- spec.l07Recover: what the specification answers. -/
import Derived.Test.YtfogppnijdjakaaGreatDoorZG17
import Derived.Test.YtfogppnijdjakaaGreatDoorZG39
import Derived.Test.YtfogppnijdjakaaGreatDoorZRvI
namespace Go.Proofs.YtfogppnijdjakaaGreatDoor
open Go.ChangeShapes Go.WideShapes Go.ChangeAt Go.RowKit
set_option linter.unusedVariables false
abbrev oRvS0 : Oper := { dst := some 38, op := .call { callee := .value (.func 59), args := #[.tmp 33, .tmp 37], argTypes := #[76, 9] }, type := 99, pos := "l07_store.go:160", after := #[{ on := 0, ground := .data }, { on := 4, ground := .data }], guard := none }
abbrev oRvS1 : Oper := { dst := some 10, op := .alloc 76, type := 0, pos := "l07_store.go:160", after := #[], guard := none }
abbrev oRvS2 : Oper := { dst := some 32, op := .move (.tmp 38), type := 99, pos := "l07_store.go:160", after := #[{ on := 5, ground := .data }], guard := none }
abbrev oRvS3 : Oper := { dst := some 39, op := .extract (.tmp 32) 0, type := 76, pos := "l07_store.go:160", after := #[{ on := 6, ground := .data }], guard := none }
abbrev oRvS4 : Oper := { dst := some 40, op := .extract (.tmp 32) 1, type := 4, pos := "l07_store.go:160", after := #[{ on := 6, ground := .data }, { on := 10, ground := .gcOnly Go.Departure.lateStores }], guard := none }
abbrev oRvS5 : Oper := { dst := none, op := .store 76 (.tmp 10) (.tmp 39), type := 0, pos := "l07_store.go:160", after := #[{ on := 9, ground := .data }, { on := 7, ground := .data }, { on := 5, ground := .chain }, { on := 0, ground := .phase }, { on := 1, ground := .phase }, { on := 2, ground := .phase }, { on := 3, ground := .phase }, { on := 4, ground := .phase }, { on := 5, ground := .phase }, { on := 6, ground := .phase }, { on := 7, ground := .phase }, { on := 8, ground := .textOnly Go.Departure.lateStores }, { on := 9, ground := .phase }], guard := none }
abbrev oRvS6 : Oper := { dst := some 11, op := .assign (.tmp 40), type := 4, pos := "l07_store.go:160", after := #[{ on := 8, ground := .data }, { on := 10, ground := .chain }, { on := 0, ground := .phase }, { on := 1, ground := .phase }, { on := 2, ground := .phase }, { on := 3, ground := .phase }, { on := 4, ground := .phase }, { on := 5, ground := .phase }, { on := 6, ground := .phase }, { on := 7, ground := .phase }, { on := 8, ground := .phase }, { on := 9, ground := .phase }, { on := 10, ground := .phase }], guard := none }
abbrev oRvS7 : Oper := { dst := some 43, op := .load 76 (.tmp 8), type := 76, pos := "l07_store.go:162", after := #[], guard := none }
abbrev oRvS8 : Oper := { dst := some 44, op := .load 74 (.tmp 1), type := 74, pos := "l07_store.go:162", after := #[{ on := 2, ground := .gcOnly Go.Departure.lateStores }], guard := none }
abbrev oRvS9 : Oper := { dst := none, op := .store 76 (.tmp 2) (.tmp 43), type := 0, pos := "l07_store.go:162", after := #[{ on := 0, ground := .data }, { on := 0, ground := .phase }, { on := 1, ground := .textOnly Go.Departure.lateStores }], guard := none }
abbrev oRvS10 : Oper := { dst := none, op := .store 74 (.tmp 3) (.tmp 44), type := 0, pos := "l07_store.go:162", after := #[{ on := 1, ground := .data }, { on := 2, ground := .chain }, { on := 0, ground := .phase }, { on := 1, ground := .phase }, { on := 2, ground := .phase }], guard := none }
abbrev oRvS11 : Oper := { dst := some 4, op := .assign (.const (.int .i64 3)), type := 3, pos := "l07_store.go:162", after := #[{ on := 3, ground := .chain }, { on := 0, ground := .phase }, { on := 1, ground := .phase }, { on := 2, ground := .phase }, { on := 3, ground := .phase }], guard := none }
theorem sapply2 (tm vt : Int) (a : Option Addr) (cap n : Nat) (l : List (Int × ByteArray)) (HN : Hid (l.length = n)) (hn : n < 1048576) (HSZ : Hid (∀ k (h : k < l.length), l[k].2.size ≤ 1048576)) (t : ByteArray) (ht : t.size ≤ 65536) (K : Bool) (hK : (apF tm vt l t).isSome = K) (w : World) (hr : RowV w a (cE l)) :
  Calls Tryz.prog 59 #[.agg #[.int .i64 tm, .int .i64 vt, .slice a n cap], .string t] w fun e w' => (∃ x y a2 n2 c2, e = .returned (.tuple #[.agg #[.int .i64 x, .int .i64 y, .slice a2 n2 c2], .bool K]) ∧ (K = true → ∃ l2, apF tm vt l t = some (x, y, l2) ∧ l2.length = n2 ∧ w'.ownsRow w.heap.size 103 2 (.slice a2 n2 c2) n2 (cE l2))) ∧ Below w.heap.size w w' := by
 refine (sapply tm vt a cap n l HN hn HSZ t ht w hr).mono ?_
 rintro e w' ⟨hto, hb⟩
 refine ⟨?_, hb⟩
 subst hK
 cases hF : apF tm vt l t with
 | none =>
  rw [hF] at hto
  obtain ⟨x, y, a2, n2, c2, rfl⟩ := hto
  exact ⟨x, y, a2, n2, c2, rfl, fun h => by cases h⟩
 | some q =>
  obtain ⟨tm2, vt2, l2⟩ := q
  rw [hF] at hto
  obtain ⟨v, rfl, ho⟩ := hto
  obtain ⟨a2, c2, rfl, -⟩ := ownZ_rowV ho
  exact ⟨tm2, vt2, a2, l2.length, c2, rfl, fun _ => ⟨l2, rfl, rfl, ho⟩⟩
/-- What l07Recover answers. -/
def SrTo (d : ByteArray) (s : Int) (r : List ByteArray × Nat × Int) (w : World) (e : Ending) (w' : World) : Prop :=
 (∃ c x y a n cp, (r.2.2 = 8 ∧ c = 8 ∨ ¬ r.2.2 = 8 ∧ apAll (0, -1, []) r.1 = none ∧ c = 3) ∧ e = .returned (.tuple #[.agg #[.int .i64 x, .int .i64 y, .slice a n cp], .agg #[.string d, .int .i64 s], .int .i64 c])) ∨
 (∃ tm vt l a n cp, ¬ r.2.2 = 8 ∧ apAll (0, -1, []) r.1 = some (tm, vt, l) ∧ l.length = n ∧ w'.ownsRow w.heap.size 103 2 (.slice a n cp) n (cE l) ∧ e = .returned (.tuple #[.agg #[.int .i64 tm, .int .i64 vt, .slice a n cp], .agg #[.string (d.extract 0 r.2.1), .int .i64 (r.2.1 : Int)], .int .i64 0]))
set_option maxHeartbeats 8000000 in
set_option maxRecDepth 100000 in
theorem srec0 (d : ByteArray) (s : Int) (sz : Nat) (hsz : sz = d.size) (hd : sz ≤ 60000) (w : World) :
  Calls Tryz.prog 38 #[.agg #[.string d, .int .i64 s]] w fun e w' => SrTo d s (frs d.size d.data.toList) w e w' ∧ Below w.heap.size w w' := by
 have B0 := hide (Go.Joins.below_alloc3 w (.cells #[.string d, .int .i64 s] 74) (.cells #[.int .i64 0, .int .i64 0, .slice none 0 0] 76) (.cells #[.string ⟨#[]⟩, .int .i64 0] 74))
 have A0 := hide (((BF.new w #[.string d, .int .i64 s] 74).alloc (.cells #[.int .i64 0, .int .i64 0, .slice none 0 0] 76)).alloc (.cells #[.string ⟨#[]⟩, .int .i64 0] 74))
 have Z0 := hide ((BF.new (w.alloc (.cells #[.string d, .int .i64 s] 74)) #[.int .i64 0, .int .i64 0, .slice none 0 0] 76).alloc (.cells #[.string ⟨#[]⟩, .int .i64 0] 74))
 have Y0 := hide (BF.new ((w.alloc (.cells #[.string d, .int .i64 s] 74)).alloc (.cells #[.int .i64 0, .int .i64 0, .slice none 0 0] 76)) #[.string ⟨#[]⟩, .int .i64 0] 74)
 simp only [World.size_alloc] at Z0 Y0
 obtain ⟨fr, hfr⟩ : ∃ fr, fr = frs d.size d.data.toList := ⟨_, rfl⟩
 have hin : fr.2.1 ≤ d.size := by rw [hfr]; have := frs_in d.size d.data.toList; rw [sizeT] at this; omega
 have hsm : ∀ x ∈ fr.1, x.size ≤ 65536 := by rw [hfr]; exact frs_small _ _
 have hle : fr.1.length ≤ 60000 := by rw [hfr]; have := frs_len d.size d.data.toList; omega
 have T := sframes d (by omega) (((w.alloc (.cells #[.string d, .int .i64 s] 74)).alloc (.cells #[.int .i64 0, .int .i64 0, .slice none 0 0] 76)).alloc (.cells #[.string ⟨#[]⟩, .int .i64 0] 74))
 rw [← hfr] at T ⊢
 obtain ⟨m, q, cc⟩ := fr
 simp only at hin hsm hle T
 have HSM := hide hsm
 have HIND := hide hin
 have a0 := (unhide A0).S
 have hq6 : q ≤ 60000 := by omega
 have HSZ := hide hsz
 clear hin hsm hfr hsz
 go_enter Tryz.func38, Tryz.ntmps38
 go_wp2_with fail
 refine T.mono ?_
 clear T a0
 rintro e w1 ⟨v, rfl, ho, hb1⟩
 obtain ⟨am, cm, rfl, hrm⟩ := own_rowV ho
 have B1 := hide ((unhide B0).trans (hb1.mono (unhide B0).size))
 have A1 := hide ((unhide A0).below hb1)
 have Z1 := hide ((unhide Z0).below hb1)
 have Y1 := hide ((unhide Y0).below hb1)
 obtain ⟨kk, hkk⟩ : ∃ kk, kk = m.length := ⟨_, rfl⟩
 have HKK := hide hkk
 rw [← hkk] at hle ⊢
 clear hb1 B0 A0 Z0 Y0 ho hkk
 have hbE : Below w1.heap.size w1 (w1.alloc (.cells #[] 103)) := Go.Joins.below_alloc1 w1 (.cells #[] 103)
 have hbQ : Below w1.heap.size w1 ((w1.alloc (.cells #[] 103)).alloc (.cells #[.int .i64 0, .int .i64 (-1), .slice (some ⟨w1.heap.size, 0, none⟩) 0 0] 76)) := hbE.alloc hbE.size _
 have zl0 : w.heap.size + 2 < w1.heap.size := (unhide Y1).lt
 obtain ⟨P, hP⟩ : ∃ P, P = w1.heap.size + 1 := ⟨_, rfl⟩
 have zl : w.heap.size + 3 < P := by omega
 have P2 : Hid (BF P #[.int .i64 0, .int .i64 (-1), .slice (some ⟨w1.heap.size, 0, none⟩) 0 0] ((w1.alloc (.cells #[] 103)).alloc (.cells #[.int .i64 0, .int .i64 (-1), .slice (some ⟨w1.heap.size, 0, none⟩) 0 0] 76))) := by
  have h := BF.new (w1.alloc (.cells #[] 103)) #[.int .i64 0, .int .i64 (-1), .slice (some ⟨w1.heap.size, 0, none⟩) 0 0] 76
  simp only [World.size_alloc] at h
  rw [hP]; exact h
 have B2 := hide ((unhide B1).trans (hbQ.mono (unhide B1).size))
 have A2 := hide ((unhide A1).below hbQ)
 have Z2 := hide ((unhide Z1).below hbQ)
 have Y2 := hide ((unhide Y1).below hbQ)
 have RM := hide (hrm.below hbQ)
 have O2 := hide (own_low ((lit_emptyE w1 103 w1.heap.size (Nat.le_refl _)).alloc (.cells #[.int .i64 0, .int .i64 (-1), .slice (some ⟨w1.heap.size, 0, none⟩) 0 0] 76)) (show w.heap.size + 3 ≤ w1.heap.size by omega))
 have BPQ : Hid (P ≤ ((w1.alloc (.cells #[] 103)).alloc (.cells #[.int .i64 0, .int .i64 (-1), .slice (some ⟨w1.heap.size, 0, none⟩) 0 0] 76)).heap.size) := by show _ ≤ _; simp only [World.size_alloc]; omega
 have HB3 : Hid (∀ b off, am = some ⟨b, off, none⟩ → 0 < kk → b < P) := fun b off e h => by
  obtain ⟨b9, o9, h9, hl9, -⟩ := hrm.at (by simp [cS]; rw [← unhide HKK]; exact h)
  rw [h9] at e; injection e with e; injection e with e _; omega
 have hPh := hide hP
 clear hbE hbQ B1 A1 Z1 Y1 hrm
 by_cases h8 : cc = 8
 ·subst h8
  go_wp2_with fail
  try simp only [World.size_alloc]
  try rw [← hP]
  generalize ((w1.alloc (.cells #[] 103)).alloc (.cells #[.int .i64 0, .int .i64 (-1), .slice (some ⟨w1.heap.size, 0, none⟩) 0 0] 76)) = wr at P2 B2 A2 Z2 Y2 O2 RM BPQ ⊢
  obtain ⟨E, hE⟩ : ∃ E, E = w1.heap.size := ⟨_, rfl⟩
  rw [← hE] at P2 O2 ⊢
  have HPp := hide (unhide P2)
  have HAp := hide (unhide A2)
  have HZp := hide (unhide Z2)
  have HYp := hide (unhide Y2)
  have HBp := hide (unhide B2)
  have HOp := hide (unhide O2)
  have nz : Hid ((Value.slice (some ⟨E, 0, none⟩) 0 0).ownBlock ≠ some (w.heap.size + 1)) := fun h => by have e : E = w.heap.size + 1 := Option.some.inj h; omega
  have ny : Hid ((Value.slice (some ⟨E, 0, none⟩) 0 0).ownBlock ≠ some (w.heap.size + 2)) := fun h => by have e : E = w.heap.size + 2 := Option.some.inj h; omega
  clear P2 A2 Z2 Y2 B2 O2 hE hP
  have kfin : (∀ o, wr.cell? ⟨P, o, none⟩ = (#[.int .i64 0, .int .i64 (-1), .slice (some ⟨E, 0, none⟩) 0 0] : Array Value)[o]?) ∧ (∀ o, wr.cell? ⟨w.heap.size, o, none⟩ = (#[.string d, .int .i64 s] : Array Value)[o]?) := ⟨(unhide HPp).S, (unhide HAp).S⟩
  have P6 := hide (unhide HPp).drew
  have A6 := hide (unhide HAp).drew
  have Z6 := hide (unhide HZp).drew
  have Y6 := hide (unhide HYp).drew
  have B6 := hide (unhide HBp).drew
  have O6 := hide (((heldZ_of (unhide HOp)).below (Below.refl _ _).drew (Nat.le_refl _)).own)
  clear HPp HAp HZp HYp HBp HOp
  go_wp2_with fail
  refine wp_region_held_drew (S := fun w' => (∀ o, w'.cell? ⟨P, o, none⟩ = (#[.int .i64 0, .int .i64 (-1), .slice (some ⟨E, 0, none⟩) 0 0] : Array Value)[o]?) ∧ (∀ o, w'.cell? ⟨w.heap.size, o, none⟩ = (#[.string d, .int .i64 s] : Array Value)[o]?)) (by kernel_rfl) kfin (fun hHeld => ?_)
  generalize wr.drew = v6 at P6 A6 Z6 Y6 O6 B6 hHeld ⊢
  refine wtv 0 (oi := { dst := some 23, op := .load 76 (.tmp 8), type := 76, pos := "l07_store.go:157", after := #[], guard := none }) ?_
  refine wtv 1 (oi := { dst := some 24, op := .load 74 (.tmp 1), type := 74, pos := "l07_store.go:157", after := #[{ on := 3, ground := .gcOnly Go.Departure.lateStores }], guard := none }) ?_
  refine wtv 2 (oi := { dst := some 25, op := .move (.tmp 7), type := 3, pos := "l07_store.go:157", after := #[{ on := 4, ground := .gcOnly Go.Departure.lateStores }], guard := none }) ?_
  refine wpAnyH_ready (rs := [3]) (by kernel_rfl) (by simp) ?_
  refine AllReadyH.cons (o := { dst := none, op := .store 76 (.tmp 2) (.tmp 23), type := 0, pos := "l07_store.go:157", after := #[{ on := 0, ground := .data }, { on := 0, ground := .phase }, { on := 1, ground := .textOnly Go.Departure.lateStores }, { on := 2, ground := .textOnly Go.Departure.lateStores }], guard := none }) rfl (fun K hK => ?_) AllReadyH.nil
  have kz := (unhide Z6).S
  have kzf := (unhide Z6).F
  obtain ⟨wz, hvz, hFZ, hbz⟩ := put3 v6 (unhide Z6) (.int .i64 0) (.int .i64 (-1)) (.slice (some ⟨E, 0, none⟩) 0 0)
  have hfz : ∀ k, k ≠ w.heap.size + 1 → wz.heap[k]? = v6.heap[k]? := fun k hk => by rw [hvz]; iterate 3 rw [Below.heap_setCell _ _ _ _ hk]
  have P7 := hide ((unhide P6).keep hbz.size (hfz P (by omega)))
  have A7 := hide ((unhide A6).keep hbz.size (hfz w.heap.size (by omega)))
  have Y7 := hide ((unhide Y6).keep hbz.size (hfz (w.heap.size + 2) (by omega)))
  have O7 := hide (own_far (unhide O6) hfz (unhide nz))
  have B7 := hide ((unhide B6).trans (hbz.mono (Nat.le_succ _)))
  have Z7 := hide hFZ
  go_simp
  rw [← hvz]
  refine hK.out _ _ ?_ (fun hHeld3 => ?_)
  ·exact ⟨(unhide P7).S, (unhide A7).S⟩
  clear hK K
  try simp only [Act.put, qqA, qqB, qqC]
  refine wpAnyH_ready (rs := [4]) (by kernel_rfl) (by simp) ?_
  refine AllReadyH.cons (o := { dst := none, op := .store 74 (.tmp 3) (.tmp 24), type := 0, pos := "l07_store.go:157", after := #[{ on := 1, ground := .data }, { on := 3, ground := .chain }, { on := 0, ground := .phase }, { on := 1, ground := .phase }, { on := 2, ground := .textOnly Go.Departure.lateStores }, { on := 3, ground := .phase }], guard := none }) rfl (fun K hK => ?_) AllReadyH.nil
  clear hvz hfz hbz hFZ kz kzf P6 A6 Y6 O6 B6 Z6
  have ky := (unhide Y7).S
  have kyf := (unhide Y7).F
  obtain ⟨wy, hvy, hFY, hfy, hby⟩ := put2 wz (unhide Y7) (.string d) (.int .i64 s)
  have P8 := hide ((unhide P7).keep hby.size (hfy P (by omega)))
  have A8 := hide ((unhide A7).keep hby.size (hfy w.heap.size (by omega)))
  have Z8 := hide ((unhide Z7).keep hby.size (hfy (w.heap.size + 1) (by omega)))
  have O8 := hide (own_far (unhide O7) hfy (unhide ny))
  have B8 := hide ((unhide B7).trans (hby.mono (by omega)))
  go_simp
  rw [← hvy]
  refine hK.out _ _ ?_ (fun hHeld4 => ?_)
  ·exact ⟨(unhide P8).S, (unhide A8).S⟩
  clear hK K
  try simp only [Act.put, qqA, qqB, qqC]
  refine wtv 5 (oi := { dst := some 4, op := .assign (.tmp 25), type := 3, pos := "l07_store.go:157", after := #[{ on := 2, ground := .data }, { on := 4, ground := .chain }, { on := 0, ground := .phase }, { on := 1, ground := .phase }, { on := 2, ground := .phase }, { on := 3, ground := .phase }, { on := 4, ground := .phase }], guard := none }) ?_
  refine wpAnyH_done (by kernel_rfl) ?_ _
  have kz := (unhide Z8).S
  have ky2 := hFY.S
  clear hvy hfy hby ky kyf
  go_wp2_with fail
  refine bodyPost_ret (v := .tuple #[.agg #[(.int .i64 0), (.int .i64 (-1)), .slice (some ⟨E, 0, none⟩) 0 0], .agg #[(.string d), (.int .i64 s)], .int .i64 8]) (by simp [results, Tryz.results38, go_sem, kz, ky2]) rfl ?_
  exact ⟨.inl ⟨8, _, _, _, _, _, .inl ⟨rfl, rfl⟩, rfl⟩, unhide B8⟩
 ·have d8 : (cc == 8) = false := by simpa using h8
  have H8 := hide h8
  clear h8
  go_wp2_with fail
  try simp only [World.size_alloc]
  try rw [← hP]
  generalize ((w1.alloc (.cells #[] 103)).alloc (.cells #[.int .i64 0, .int .i64 (-1), .slice (some ⟨w1.heap.size, 0, none⟩) 0 0] 76)) = wq at P2 B2 A2 Z2 Y2 O2 RM BPQ ⊢
  obtain ⟨E, hE⟩ : ∃ E, E = w1.heap.size := ⟨_, rfl⟩
  rw [← hE] at P2 O2 ⊢
  clear hE hP
  go_loopw [9] (fun i wr => ∃ (k n : Nat) (tm vt : Int) (a : Option Addr) (cap : Nat) (l : List Ent), k ≤ kk ∧ i = .int .i64 k ∧ Hid (l.length = n) ∧ Hid (stateB tm vt l = true) ∧ Hid (apAll (tm, vt, l) (m.drop k) = apAll (0, -1, []) m) ∧ Hid (BF P #[.int .i64 tm, .int .i64 vt, .slice a n cap] wr) ∧ Hid (wr.ownsRow (w.heap.size + 3) 103 2 (.slice a n cap) n (cE l)) ∧ Hid (Below P wq wr)) (fun i _ => kk - (intOf i).toNat)
  case atStart => exact ⟨0, 0, 0, -1, _, _, [], by omega, rfl, rfl, state0, rfl, P2, O2, Below.refl _ _⟩
  case round =>
   obtain ⟨k, n, tm, vt, a, cap, l, hk, rfl, HN, HST, HAL, HP, HO, HB⟩ := hrel
   clear P2 O2
   have hn60 : n ≤ 60 := by have h := (state_parts (unhide HST)).2.2.1; have := unhide HN; omega
   have BR := hide ((unhide B2).trans ((unhide HB).mono (by omega)))
   have hPw := (unhide HP).lt
   by_cases hlt : k < kk
   ·have hkm : k < m.length := by rw [← unhide HKK]; exact hlt
    obtain ⟨td, etd⟩ : ∃ td, td = m[k] := ⟨_, rfl⟩
    have htd : td.size ≤ 65536 := by rw [etd]; exact unhide HSM _ (List.getElem_mem hkm)
    have hal := unhide HAL
    rw [apAll_drop _ m k hkm, ← etd] at hal
    obtain ⟨b, off, ham, hblt, hc⟩ := (unhide RM).at (by simp [cS]; omega)
    have hbP := unhide HB3 b off ham (by omega)
    subst ham
    have hcell : wr.cell? ⟨b, off + k, none⟩ = some (.string td) := ((unhide HB).cell (p := ⟨b, off + k, none⟩) hbP).trans (hc k _ (by rw [etd]; simp [cS, hkm]))
    obtain ⟨KB, hKB⟩ : ∃ KB, (apF tm vt l td).isSome = KB := ⟨_, rfl⟩
    have RV3 := hide (rowZ_at (((heldZ_of (unhide HO)).below (Below.refl _ _).drew (Nat.le_refl _)).own))
    have HTD := hide htd
    have P3 := hide (unhide HP).drew
    have B3 := hide (unhide BR).drew
    have BP3 := hide (unhide HB).drew
    have hP3 : Hid (P ≤ wr.drew.heap.size) := by show P ≤ wr.heap.size; omega
    have hwv : Hid (w.heap.size + 3 ≤ wr.drew.heap.size) := by show w.heap.size + 3 ≤ wr.heap.size; omega
    have kb3 : Hid (b < wr.drew.heap.size ∧ wr.drew.cell? ⟨b, off + k, none⟩ = some (.string td)) := ⟨by show b < wr.heap.size; omega, hcell⟩
    have k8 : (∀ o, wr.cell? ⟨P, o, none⟩ = (#[.int .i64 tm, .int .i64 vt, .slice a n cap] : Array Value)[o]?) ∧ wr.cell? ⟨b, off + k, none⟩ = some (.string td) := ⟨(unhide HP).S, hcell⟩
    have i1 : (k : Int) < (kk : Int) := by omega
    have i0 : (0 : Int) ≤ (k : Int) := by omega
    have HKB := hide hKB
    have HALk := hide hal
    clear hal hc etd HAL HP HO htd hKB hblt hkm HB BR
    go_wp2_with fail
    refine wp_region_held_drew (S := fun w' => (∀ o, w'.cell? ⟨P, o, none⟩ = (#[.int .i64 tm, .int .i64 vt, .slice a n cap] : Array Value)[o]?) ∧ w'.cell? ⟨b, off + k, none⟩ = some (.string td)) (by kernel_rfl) k8 (fun hHeld => ?_)
    generalize wr.drew = v3 at P3 B3 BP3 kb3 RV3 hP3 hwv hHeld ⊢
    refine wtv 0 (oi := { dst := some 33, op := .load 76 (.tmp 8), type := 76, pos := "l07_store.go:160", after := #[], guard := none }) ?_
    refine wtv 1 (oi := { dst := some 34, op := .move (.tmp 5), type := 25, pos := "l07_store.go:160", after := #[], guard := none }) ?_
    refine wtv 2 (oi := { dst := some 35, op := .move (.tmp 9), type := 3, pos := "l07_store.go:160", after := #[], guard := none }) ?_
    refine wtv 3 (oi := { dst := some 36, op := .indexAddr 25 (.tmp 34) (.tmp 35), type := 0, pos := "l07_store.go:160", after := #[{ on := 1, ground := .data }, { on := 2, ground := .data }], guard := none }) ?_
    refine wtv 4 (oi := { dst := some 37, op := .load 9 (.tmp 36), type := 9, pos := "l07_store.go:160", after := #[{ on := 3, ground := .data }], guard := none }) ?_
    refine wpAnyH_ready (rs := [5, 9]) (by kernel_rfl) (by simp) ?_
    refine AllReadyH.cons (o := oRvS0) rfl (fun K hK => ?_) (AllReadyH.cons (o := oRvS1) rfl (fun K hK => ?_) AllReadyH.nil)
    ·skip
     go_simp
     refine (sapply2 tm vt a cap n l HN (by omega) (state_sz (unhide HST)) td (unhide HTD) KB (unhide HKB) _ (unhide RV3)).mono ?_
     rintro e w4 ⟨⟨x, y, a2, n2, c2, rfl, hyes⟩, hb4⟩
     have P4 := hide ((unhide P3).below hb4)
     have B4 := hide ((unhide B3).trans (hb4.mono (unhide B3).size))
     have BP4 := hide ((unhide BP3).trans (hb4.mono (unhide hP3)))
     have kb4 : Hid (b < w4.heap.size ∧ w4.cell? ⟨b, off + k, none⟩ = some (.string td)) := ⟨Nat.lt_of_lt_of_le (unhide kb3).1 hb4.size, (hb4.cell (p := ⟨b, off + k, none⟩) (unhide kb3).1).trans (unhide kb3).2⟩
     have HY4 := hide hyes
     have hwv4 := hide (unhide hwv)
     clear hb4 hyes P3 B3 BP3 kb3 RV3 
     go_wp2_with fail
     refine hK.out _ _ ?_ (fun hHeldC => ?_)
     ·exact ⟨(unhide P4).S, (unhide kb4).2⟩
     clear hK K
     try simp only [Act.put, qqA, qqB, qqC]
     refine wtv 6 (oi := oRvS2) ?_
     refine wtv 7 (oi := oRvS3) ?_
     refine wtv 8 (oi := oRvS4) ?_
     refine wpAnyH_ready (rs := [9]) (by kernel_rfl) (by simp) ?_
     refine AllReadyH.cons (o := oRvS1) rfl (fun K hK => ?_) AllReadyH.nil
     obtain ⟨G, hG⟩ : ∃ G, G = w4.heap.size := ⟨_, rfl⟩
     have hb5 : Below w4.heap.size w4 (w4.alloc (.cells #[.int .i64 0, .int .i64 0, .slice none 0 0] 76)) := Go.Joins.below_alloc1 w4 (.cells #[.int .i64 0, .int .i64 0, .slice none 0 0] 76)
     have P5 := hide ((unhide P4).below hb5)
     have N5 := hide (BF.new w4 #[.int .i64 0, .int .i64 0, .slice none 0 0] 76)
     have hPG : P < G := by rw [hG]; exact (unhide P4).lt
     have B5 := hide ((unhide B4).trans (hb5.mono (unhide B4).size))
     have BP5 := hide ((unhide BP4).trans (hb5.mono (by have := (unhide P4).lt; omega)))
     have kb5 : Hid (b < (w4.alloc (.cells #[.int .i64 0, .int .i64 0, .slice none 0 0] 76)).heap.size ∧ (w4.alloc (.cells #[.int .i64 0, .int .i64 0, .slice none 0 0] 76)).cell? ⟨b, off + k, none⟩ = some (.string td)) := ⟨Nat.lt_of_lt_of_le (unhide kb4).1 hb5.size, (hb5.cell (p := ⟨b, off + k, none⟩) (unhide kb4).1).trans (unhide kb4).2⟩
     have kbG : Hid (b < G) := by rw [hG]; exact (unhide kb4).1
     have HY5 : Hid (KB = true → ∃ l2, apF tm vt l td = some (x, y, l2) ∧ l2.length = n2 ∧ (w4.alloc (.cells #[.int .i64 0, .int .i64 0, .slice none 0 0] 76)).ownsRow (w.heap.size + 3) 103 2 (.slice a2 n2 c2) n2 (cE l2) ∧ ∀ j, (Value.slice a2 n2 c2).ownBlock = some j → j ≠ G) := fun h => by
      obtain ⟨l2, h1, h2, h3⟩ := unhide HY4 h
      exact ⟨l2, h1, h2, own_low (h3.alloc _) (unhide hwv4), fun j hj e => by have := (h3.lt j hj).2; omega⟩
     clear HY4
     rw [← hG] at N5
     go_simp
     refine hK.out _ _ ?_ (fun hHeldA => ?_)
     ·exact ⟨(unhide P5).S, (unhide kb5).2⟩
     clear hK K
     try simp only [Act.put, qqA, qqB, qqC]
     rw [← hG]
     clear hb5 hG P4 B4 BP4 kb4
     generalize w4.alloc (.cells #[.int .i64 0, .int .i64 0, .slice none 0 0] 76) = w5 at P5 N5 B5 BP5 kb5 HY5 hHeldA ⊢
     refine wpAnyH_ready (rs := [10]) (by kernel_rfl) (by simp) ?_
     refine AllReadyH.cons (o := oRvS5) rfl (fun K hK => ?_) AllReadyH.nil
     have kn := (unhide N5).S
     have knf := (unhide N5).F
     obtain ⟨w6, hv6, hFN, hb6⟩ := put3 w5 (unhide N5) (.int .i64 x) (.int .i64 y) (.slice a2 n2 c2)
     have hf6 : ∀ k, k ≠ G → w6.heap[k]? = w5.heap[k]? := fun k hk => by rw [hv6]; iterate 3 rw [Below.heap_setCell _ _ _ _ hk]
     have P6 := hide ((unhide P5).keep hb6.size (hf6 P (by omega)))
     have B6 := hide ((unhide B5).trans (hb6.mono (by omega)))
     have BP6 := hide ((unhide BP5).trans (hb6.mono (by omega)))
     have kb6 : w6.cell? ⟨b, off + k, none⟩ = some (.string td) := (World.cell?_of_block (a := ⟨b, off + k, none⟩) (hf6 b (by have := unhide kbG; omega))).trans (unhide kb5).2
     have HY6 : Hid (KB = true → ∃ l2, apF tm vt l td = some (x, y, l2) ∧ l2.length = n2 ∧ w6.ownsRow (w.heap.size + 3) 103 2 (.slice a2 n2 c2) n2 (cE l2)) := fun h => by
      obtain ⟨l2, h1, h2, h3, h4⟩ := unhide HY5 h
      exact ⟨l2, h1, h2, own_far h3 hf6 (fun hj => h4 _ hj rfl)⟩
     have N6 := hide hFN
     go_simp
     rw [← hv6]
     refine hK.out _ _ ?_ (fun hHeld10 => ?_)
     ·exact ⟨(unhide P6).S, kb6⟩
     clear hK K
     try simp only [Act.put, qqA, qqB, qqC]
     refine wtv 11 (oi := oRvS6) ?_
     refine wpAnyH_done (by kernel_rfl) ?_ _
     clear kb5 HY5 P5 N5 B5 BP5 hv6 hFN hb6 hf6 kn knf
     cases KB with
     | false =>
      have hno : apF tm vt l td = none := by have := unhide HKB; cases h : apF tm vt l td with | none => rfl | some _ => rw [h] at this; cases this
      have HNO : Hid (apAll (0, -1, []) m = none) := by show _ = _; rw [← unhide HALk, apAll_no hno]
      have HPp := hide (unhide P6)
      have HAp := hide ((unhide A2).keep (unhide BP6).size ((unhide BP6).block _ (by omega)))
      have HZp := hide ((unhide Z2).keep (unhide BP6).size ((unhide BP6).block _ (by omega)))
      have HYp := hide ((unhide Y2).keep (unhide BP6).size ((unhide BP6).block _ (by omega)))
      have HBp := hide (unhide B6)
      clear hno P6 B6 BP6 HY6 N6
      go_wp2_with fail
      have kfin : (∀ o, w6.cell? ⟨P, o, none⟩ = (#[.int .i64 tm, .int .i64 vt, .slice a n cap] : Array Value)[o]?) ∧ (∀ o, w6.cell? ⟨w.heap.size, o, none⟩ = (#[.string d, .int .i64 s] : Array Value)[o]?) := ⟨(unhide HPp).S, (unhide HAp).S⟩
      have P6 := hide (unhide HPp).drew
      have A6 := hide (unhide HAp).drew
      have Z6 := hide (unhide HZp).drew
      have Y6 := hide (unhide HYp).drew
      have B6 := hide (unhide HBp).drew
      clear HPp HAp HZp HYp HBp
      go_wp2_with fail
      refine wp_region_held_drew (S := fun w' => (∀ o, w'.cell? ⟨P, o, none⟩ = (#[.int .i64 tm, .int .i64 vt, .slice a n cap] : Array Value)[o]?) ∧ (∀ o, w'.cell? ⟨w.heap.size, o, none⟩ = (#[.string d, .int .i64 s] : Array Value)[o]?)) (by kernel_rfl) kfin (fun hHeld => ?_)
      generalize w6.drew = v6 at P6 A6 Z6 Y6 B6 hHeld ⊢
      refine wtv 0 (oi := oRvS7) ?_
      refine wtv 1 (oi := oRvS8) ?_
      refine wpAnyH_ready (rs := [2]) (by kernel_rfl) (by simp) ?_
      refine AllReadyH.cons (o := oRvS9) rfl (fun K hK => ?_) AllReadyH.nil
      have kz := (unhide Z6).S
      have kzf := (unhide Z6).F
      obtain ⟨wz, hvz, hFZ, hbz⟩ := put3 v6 (unhide Z6) (.int .i64 tm) (.int .i64 vt) (.slice a n cap)
      have hfz : ∀ k, k ≠ w.heap.size + 1 → wz.heap[k]? = v6.heap[k]? := fun k hk => by rw [hvz]; iterate 3 rw [Below.heap_setCell _ _ _ _ hk]
      have P7 := hide ((unhide P6).keep hbz.size (hfz P (by omega)))
      have A7 := hide ((unhide A6).keep hbz.size (hfz w.heap.size (by omega)))
      have Y7 := hide ((unhide Y6).keep hbz.size (hfz (w.heap.size + 2) (by omega)))
      have B7 := hide ((unhide B6).trans (hbz.mono (Nat.le_succ _)))
      have Z7 := hide hFZ
      go_simp
      rw [← hvz]
      refine hK.out _ _ ?_ (fun hHeld2 => ?_)
      ·exact ⟨(unhide P7).S, (unhide A7).S⟩
      clear hK K
      try simp only [Act.put, qqA, qqB, qqC]
      refine wpAnyH_ready (rs := [3]) (by kernel_rfl) (by simp) ?_
      refine AllReadyH.cons (o := oRvS10) rfl (fun K hK => ?_) AllReadyH.nil
      clear hvz hfz hbz hFZ kz kzf P6 A6 Y6 B6 Z6
      have ky := (unhide Y7).S
      have kyf := (unhide Y7).F
      obtain ⟨wy, hvy, hFY, hfy, hby⟩ := put2 wz (unhide Y7) (.string d) (.int .i64 s)
      have P8 := hide ((unhide P7).keep hby.size (hfy P (by omega)))
      have A8 := hide ((unhide A7).keep hby.size (hfy w.heap.size (by omega)))
      have Z8 := hide ((unhide Z7).keep hby.size (hfy (w.heap.size + 1) (by omega)))
      have B8 := hide ((unhide B7).trans (hby.mono (by omega)))
      go_simp
      rw [← hvy]
      refine hK.out _ _ ?_ (fun hHeld3 => ?_)
      ·exact ⟨(unhide P8).S, (unhide A8).S⟩
      clear hK K
      try simp only [Act.put, qqA, qqB, qqC]
      refine wtv 4 (oi := oRvS11) ?_
      refine wpAnyH_done (by kernel_rfl) ?_ _
      have kz := (unhide Z8).S
      have ky2 := hFY.S
      clear hvy hfy hby ky kyf
      go_wp2_with fail
      refine bodyPost_ret (v := .tuple #[.agg #[(.int .i64 tm), (.int .i64 vt), .slice a n cap], .agg #[(.string d), (.int .i64 s)], .int .i64 3]) (by simp [results, Tryz.results38, go_sem, kz, ky2]) rfl ?_
      exact ⟨.inl ⟨3, _, _, _, _, _, .inr ⟨unhide H8, unhide HNO, rfl⟩, rfl⟩, unhide B8⟩
         | true =>
      obtain ⟨l2, h1, h2, h3⟩ := unhide HY6 rfl
      have HAL3 : Hid (apAll (x, y, l2) (m.drop (k + 1)) = apAll (0, -1, []) m) := by show _ = _; rw [← unhide HALk, apAll_yes h1]
      have HST2 := hide (apF_right h1)
      have HN2 := hide h2
      have O6 := hide h3
      have hnP := own_ne2 (unhide O6) (unhide P6)
      obtain ⟨w7, hv7, hF7, hb7⟩ := put3 w6 (unhide P6) (.int .i64 x) (.int .i64 y) (.slice a2 n2 c2)
      have hf7 : ∀ k, k ≠ P → w7.heap[k]? = w6.heap[k]? := fun k hk => by rw [hv7]; iterate 3 rw [Below.heap_setCell _ _ _ _ hk]
      have O7 := hide (own_far (unhide O6) hf7 hnP)
      have B7 := hide ((unhide BP6).trans hb7)
      have F7 := hide hF7
      have kn := (unhide N6).S
      have kp := (unhide P6).S
      have kpf := (unhide P6).F
      subst hv7
      clear h1 h2 h3 hf7 hb7 hF7 hnP HY6 N6 P6 B6 BP6 O6
      go_wp2_with fail
      go_roundw
      case rel => exact ⟨k + 1, n2, x, y, a2, c2, l2, by omega, by go_num, HN2, HST2, HAL3, F7, O7, B7⟩
      case measure => simp [intOf]; omega
    ·skip
     obtain ⟨G, hG⟩ : ∃ G, G = v3.heap.size := ⟨_, rfl⟩
     have hb5 : Below v3.heap.size v3 (v3.alloc (.cells #[.int .i64 0, .int .i64 0, .slice none 0 0] 76)) := Go.Joins.below_alloc1 v3 (.cells #[.int .i64 0, .int .i64 0, .slice none 0 0] 76)
     have P4 := hide ((unhide P3).below hb5)
     have N4 := hide (BF.new v3 #[.int .i64 0, .int .i64 0, .slice none 0 0] 76)
     have hPG : P < G := by rw [hG]; exact (unhide P3).lt
     have B4 := hide ((unhide B3).trans (hb5.mono (unhide B3).size))
     have BP4 := hide ((unhide BP3).trans (hb5.mono (by have := (unhide P3).lt; omega)))
     have kb4 : Hid (b < (v3.alloc (.cells #[.int .i64 0, .int .i64 0, .slice none 0 0] 76)).heap.size ∧ (v3.alloc (.cells #[.int .i64 0, .int .i64 0, .slice none 0 0] 76)).cell? ⟨b, off + k, none⟩ = some (.string td)) := ⟨Nat.lt_of_lt_of_le (unhide kb3).1 hb5.size, (hb5.cell (p := ⟨b, off + k, none⟩) (unhide kb3).1).trans (unhide kb3).2⟩
     have kbG : Hid (b < G) := by rw [hG]; exact (unhide kb3).1
     have RV4 := hide ((unhide RV3).below hb5)
     have hP4 : Hid (P ≤ (v3.alloc (.cells #[.int .i64 0, .int .i64 0, .slice none 0 0] 76)).heap.size) := Nat.le_trans (unhide hP3) hb5.size
     have hG4 : Hid (G < (v3.alloc (.cells #[.int .i64 0, .int .i64 0, .slice none 0 0] 76)).heap.size) := by show _ < _; simp only [World.size_alloc]; omega
     clear RV3
     rw [← hG] at N4
     go_simp
     refine hK.out _ _ ?_ (fun hHeldA => ?_)
     ·exact ⟨(unhide P4).S, (unhide kb4).2⟩
     clear hK K
     try simp only [Act.put, qqA, qqB, qqC]
     rw [← hG]
     clear hb5 hG P3 B3 BP3 kb3
     generalize v3.alloc (.cells #[.int .i64 0, .int .i64 0, .slice none 0 0] 76) = w4 at P4 N4 B4 BP4 kb4 RV4 hP4 hG4 hHeldA ⊢
     refine wpAnyH_ready (rs := [5]) (by kernel_rfl) (by simp) ?_
     refine AllReadyH.cons (o := oRvS0) rfl (fun K hK => ?_) AllReadyH.nil
     go_simp
     refine (sapply2 tm vt a cap n l HN (by omega) (state_sz (unhide HST)) td (unhide HTD) KB (unhide HKB) _ (unhide RV4)).mono ?_
     rintro e w5 ⟨⟨x, y, a2, n2, c2, rfl, hyes⟩, hb4⟩
     have P5 := hide ((unhide P4).below hb4)
     have B5 := hide ((unhide B4).trans (hb4.mono (unhide B4).size))
     have BP5 := hide ((unhide BP4).trans (hb4.mono (unhide hP4)))
     have kb5 : Hid (b < w5.heap.size ∧ w5.cell? ⟨b, off + k, none⟩ = some (.string td)) := ⟨Nat.lt_of_lt_of_le (unhide kb4).1 hb4.size, (hb4.cell (p := ⟨b, off + k, none⟩) (unhide kb4).1).trans (unhide kb4).2⟩
     have N5 := hide ((unhide N4).below hb4)
     have HY5 : Hid (KB = true → ∃ l2, apF tm vt l td = some (x, y, l2) ∧ l2.length = n2 ∧ w5.ownsRow (w.heap.size + 3) 103 2 (.slice a2 n2 c2) n2 (cE l2) ∧ ∀ j, (Value.slice a2 n2 c2).ownBlock = some j → j ≠ G) := fun h => by
      obtain ⟨l2, h1, h2, h3⟩ := hyes h
      exact ⟨l2, h1, h2, own_low h3 (by have := unhide hG4; omega), fun j hj e => by have := (h3.lt j hj).1; have := unhide hG4; omega⟩
     clear N4
     clear hb4 hyes P4 B4 BP4 kb4 RV4 
     go_wp2_with fail
     refine hK.out _ _ ?_ (fun hHeldC => ?_)
     ·exact ⟨(unhide P5).S, (unhide kb5).2⟩
     clear hK K
     try simp only [Act.put, qqA, qqB, qqC]
     refine wtv 6 (oi := oRvS2) ?_
     refine wtv 7 (oi := oRvS3) ?_
     refine wtv 8 (oi := oRvS4) ?_
     refine wpAnyH_ready (rs := [10]) (by kernel_rfl) (by simp) ?_
     refine AllReadyH.cons (o := oRvS5) rfl (fun K hK => ?_) AllReadyH.nil
     have kn := (unhide N5).S
     have knf := (unhide N5).F
     obtain ⟨w6, hv6, hFN, hb6⟩ := put3 w5 (unhide N5) (.int .i64 x) (.int .i64 y) (.slice a2 n2 c2)
     have hf6 : ∀ k, k ≠ G → w6.heap[k]? = w5.heap[k]? := fun k hk => by rw [hv6]; iterate 3 rw [Below.heap_setCell _ _ _ _ hk]
     have P6 := hide ((unhide P5).keep hb6.size (hf6 P (by omega)))
     have B6 := hide ((unhide B5).trans (hb6.mono (by omega)))
     have BP6 := hide ((unhide BP5).trans (hb6.mono (by omega)))
     have kb6 : w6.cell? ⟨b, off + k, none⟩ = some (.string td) := (World.cell?_of_block (a := ⟨b, off + k, none⟩) (hf6 b (by have := unhide kbG; omega))).trans (unhide kb5).2
     have HY6 : Hid (KB = true → ∃ l2, apF tm vt l td = some (x, y, l2) ∧ l2.length = n2 ∧ w6.ownsRow (w.heap.size + 3) 103 2 (.slice a2 n2 c2) n2 (cE l2)) := fun h => by
      obtain ⟨l2, h1, h2, h3, h4⟩ := unhide HY5 h
      exact ⟨l2, h1, h2, own_far h3 hf6 (fun hj => h4 _ hj rfl)⟩
     have N6 := hide hFN
     go_simp
     rw [← hv6]
     refine hK.out _ _ ?_ (fun hHeld10 => ?_)
     ·exact ⟨(unhide P6).S, kb6⟩
     clear hK K
     try simp only [Act.put, qqA, qqB, qqC]
     refine wtv 11 (oi := oRvS6) ?_
     refine wpAnyH_done (by kernel_rfl) ?_ _
     clear kb5 HY5 P5 N5 B5 BP5 hv6 hFN hb6 hf6 kn knf
     cases KB with
     | false =>
      have hno : apF tm vt l td = none := by have := unhide HKB; cases h : apF tm vt l td with | none => rfl | some _ => rw [h] at this; cases this
      have HNO : Hid (apAll (0, -1, []) m = none) := by show _ = _; rw [← unhide HALk, apAll_no hno]
      have HPp := hide (unhide P6)
      have HAp := hide ((unhide A2).keep (unhide BP6).size ((unhide BP6).block _ (by omega)))
      have HZp := hide ((unhide Z2).keep (unhide BP6).size ((unhide BP6).block _ (by omega)))
      have HYp := hide ((unhide Y2).keep (unhide BP6).size ((unhide BP6).block _ (by omega)))
      have HBp := hide (unhide B6)
      clear hno P6 B6 BP6 HY6 N6
      go_wp2_with fail
      have kfin : (∀ o, w6.cell? ⟨P, o, none⟩ = (#[.int .i64 tm, .int .i64 vt, .slice a n cap] : Array Value)[o]?) ∧ (∀ o, w6.cell? ⟨w.heap.size, o, none⟩ = (#[.string d, .int .i64 s] : Array Value)[o]?) := ⟨(unhide HPp).S, (unhide HAp).S⟩
      have P6 := hide (unhide HPp).drew
      have A6 := hide (unhide HAp).drew
      have Z6 := hide (unhide HZp).drew
      have Y6 := hide (unhide HYp).drew
      have B6 := hide (unhide HBp).drew
      clear HPp HAp HZp HYp HBp
      go_wp2_with fail
      refine wp_region_held_drew (S := fun w' => (∀ o, w'.cell? ⟨P, o, none⟩ = (#[.int .i64 tm, .int .i64 vt, .slice a n cap] : Array Value)[o]?) ∧ (∀ o, w'.cell? ⟨w.heap.size, o, none⟩ = (#[.string d, .int .i64 s] : Array Value)[o]?)) (by kernel_rfl) kfin (fun hHeld => ?_)
      generalize w6.drew = v6 at P6 A6 Z6 Y6 B6 hHeld ⊢
      refine wtv 0 (oi := oRvS7) ?_
      refine wtv 1 (oi := oRvS8) ?_
      refine wpAnyH_ready (rs := [2]) (by kernel_rfl) (by simp) ?_
      refine AllReadyH.cons (o := oRvS9) rfl (fun K hK => ?_) AllReadyH.nil
      have kz := (unhide Z6).S
      have kzf := (unhide Z6).F
      obtain ⟨wz, hvz, hFZ, hbz⟩ := put3 v6 (unhide Z6) (.int .i64 tm) (.int .i64 vt) (.slice a n cap)
      have hfz : ∀ k, k ≠ w.heap.size + 1 → wz.heap[k]? = v6.heap[k]? := fun k hk => by rw [hvz]; iterate 3 rw [Below.heap_setCell _ _ _ _ hk]
      have P7 := hide ((unhide P6).keep hbz.size (hfz P (by omega)))
      have A7 := hide ((unhide A6).keep hbz.size (hfz w.heap.size (by omega)))
      have Y7 := hide ((unhide Y6).keep hbz.size (hfz (w.heap.size + 2) (by omega)))
      have B7 := hide ((unhide B6).trans (hbz.mono (Nat.le_succ _)))
      have Z7 := hide hFZ
      go_simp
      rw [← hvz]
      refine hK.out _ _ ?_ (fun hHeld2 => ?_)
      ·exact ⟨(unhide P7).S, (unhide A7).S⟩
      clear hK K
      try simp only [Act.put, qqA, qqB, qqC]
      refine wpAnyH_ready (rs := [3]) (by kernel_rfl) (by simp) ?_
      refine AllReadyH.cons (o := oRvS10) rfl (fun K hK => ?_) AllReadyH.nil
      clear hvz hfz hbz hFZ kz kzf P6 A6 Y6 B6 Z6
      have ky := (unhide Y7).S
      have kyf := (unhide Y7).F
      obtain ⟨wy, hvy, hFY, hfy, hby⟩ := put2 wz (unhide Y7) (.string d) (.int .i64 s)
      have P8 := hide ((unhide P7).keep hby.size (hfy P (by omega)))
      have A8 := hide ((unhide A7).keep hby.size (hfy w.heap.size (by omega)))
      have Z8 := hide ((unhide Z7).keep hby.size (hfy (w.heap.size + 1) (by omega)))
      have B8 := hide ((unhide B7).trans (hby.mono (by omega)))
      go_simp
      rw [← hvy]
      refine hK.out _ _ ?_ (fun hHeld3 => ?_)
      ·exact ⟨(unhide P8).S, (unhide A8).S⟩
      clear hK K
      try simp only [Act.put, qqA, qqB, qqC]
      refine wtv 4 (oi := oRvS11) ?_
      refine wpAnyH_done (by kernel_rfl) ?_ _
      have kz := (unhide Z8).S
      have ky2 := hFY.S
      clear hvy hfy hby ky kyf
      go_wp2_with fail
      refine bodyPost_ret (v := .tuple #[.agg #[(.int .i64 tm), (.int .i64 vt), .slice a n cap], .agg #[(.string d), (.int .i64 s)], .int .i64 3]) (by simp [results, Tryz.results38, go_sem, kz, ky2]) rfl ?_
      exact ⟨.inl ⟨3, _, _, _, _, _, .inr ⟨unhide H8, unhide HNO, rfl⟩, rfl⟩, unhide B8⟩
         | true =>
      obtain ⟨l2, h1, h2, h3⟩ := unhide HY6 rfl
      have HAL3 : Hid (apAll (x, y, l2) (m.drop (k + 1)) = apAll (0, -1, []) m) := by show _ = _; rw [← unhide HALk, apAll_yes h1]
      have HST2 := hide (apF_right h1)
      have HN2 := hide h2
      have O6 := hide h3
      have hnP := own_ne2 (unhide O6) (unhide P6)
      obtain ⟨w7, hv7, hF7, hb7⟩ := put3 w6 (unhide P6) (.int .i64 x) (.int .i64 y) (.slice a2 n2 c2)
      have hf7 : ∀ k, k ≠ P → w7.heap[k]? = w6.heap[k]? := fun k hk => by rw [hv7]; iterate 3 rw [Below.heap_setCell _ _ _ _ hk]
      have O7 := hide (own_far (unhide O6) hf7 hnP)
      have B7 := hide ((unhide BP6).trans hb7)
      have F7 := hide hF7
      have kn := (unhide N6).S
      have kp := (unhide P6).S
      have kpf := (unhide P6).F
      subst hv7
      clear h1 h2 h3 hf7 hb7 hF7 hnP HY6 N6 P6 B6 BP6 O6
      go_wp2_with fail
      go_roundw
      case rel => exact ⟨k + 1, n2, x, y, a2, c2, l2, by omega, by go_num, HN2, HST2, HAL3, F7, O7, B7⟩
      case measure => simp [intOf]; omega
   ·obtain rfl : k = kk := by omega
    have hal := unhide HAL
    rw [List.drop_eq_nil_of_le (by rw [← unhide HKK]; exact Nat.le_refl _)] at hal
    have HALk : Hid (apAll (0, -1, []) m = some (tm, vt, l)) := hal.symm
    have HPp := hide (unhide HP)
    have HAp := hide ((unhide A2).keep (unhide HB).size ((unhide HB).block _ (by omega)))
    have HZp := hide ((unhide Z2).keep (unhide HB).size ((unhide HB).block _ (by omega)))
    have HYp := hide ((unhide Y2).keep (unhide HB).size ((unhide HB).block _ (by omega)))
    have HBp := hide (unhide BR)
    have HOp := hide (unhide HO)
    have nz : Hid ((Value.slice a n cap).ownBlock ≠ some (w.heap.size + 1)) := fun h => by have := ((unhide HO).lt _ h).1; omega
    have ny : Hid ((Value.slice a n cap).ownBlock ≠ some (w.heap.size + 2)) := fun h => by have := ((unhide HO).lt _ h).1; omega
    have j0 : (0 : Int) ≤ (q : Int) := by omega
    have j1 : (q : Int) ≤ (d.size : Int) := by have := unhide HIND; omega
    clear hal HAL HP HO BR HB
    go_wp2_with fail
    have kfin : (∀ o, wr.cell? ⟨P, o, none⟩ = (#[.int .i64 tm, .int .i64 vt, .slice a n cap] : Array Value)[o]?) ∧ (∀ o, wr.cell? ⟨w.heap.size, o, none⟩ = (#[.string d, .int .i64 s] : Array Value)[o]?) := ⟨(unhide HPp).S, (unhide HAp).S⟩
    have P6 := hide (unhide HPp).drew
    have A6 := hide (unhide HAp).drew
    have Z6 := hide (unhide HZp).drew
    have Y6 := hide (unhide HYp).drew
    have B6 := hide (unhide HBp).drew
    have O6 := hide (((heldZ_of (unhide HOp)).below (Below.refl _ _).drew (Nat.le_refl _)).own)
    clear HPp HAp HZp HYp HBp HOp
    go_wp2_with fail
    refine wp_region_held_drew (S := fun w' => (∀ o, w'.cell? ⟨P, o, none⟩ = (#[.int .i64 tm, .int .i64 vt, .slice a n cap] : Array Value)[o]?) ∧ (∀ o, w'.cell? ⟨w.heap.size, o, none⟩ = (#[.string d, .int .i64 s] : Array Value)[o]?)) (by kernel_rfl) kfin (fun hHeld => ?_)
    generalize wr.drew = v6 at P6 A6 Z6 Y6 O6 B6 hHeld ⊢
    refine wtv 0 (oi := { dst := some 46, op := .load 76 (.tmp 8), type := 76, pos := "l07_store.go:166", after := #[], guard := none }) ?_
    refine wtv 1 (oi := { dst := some 47, op := .fieldAddr 74 (.tmp 1) 0, type := 0, pos := "l07_store.go:166", after := #[], guard := none }) ?_
    refine wtv 2 (oi := { dst := some 48, op := .load 9 (.tmp 47), type := 9, pos := "l07_store.go:166", after := #[{ on := 1, ground := .data }], guard := none }) ?_
    refine wtv 3 (oi := { dst := some 49, op := .move (.tmp 6), type := 3, pos := "l07_store.go:166", after := #[], guard := none }) ?_
    refine wtv 4 (oi := { dst := some 50, op := .slice 9 (.tmp 48) none (some (.tmp 49)) none, type := 9, pos := "l07_store.go:166", after := #[{ on := 2, ground := .data }, { on := 3, ground := .data }], guard := none }) ?_
    refine wtv 5 (oi := { dst := some 51, op := .move (.tmp 6), type := 3, pos := "l07_store.go:166", after := #[{ on := 7, ground := .gcOnly Go.Departure.lateStores }], guard := none }) ?_
    refine wtv 6 (oi := { dst := some 52, op := .build 74 #[(0, .tmp 50), (1, .tmp 51)], type := 74, pos := "l07_store.go:166", after := #[{ on := 4, ground := .data }, { on := 5, ground := .data }, { on := 7, ground := .gcOnly Go.Departure.lateStores }], guard := none }) ?_
    refine wpAnyH_ready (rs := [7]) (by kernel_rfl) (by simp) ?_
    refine AllReadyH.cons (o := { dst := none, op := .store 76 (.tmp 2) (.tmp 46), type := 0, pos := "l07_store.go:166", after := #[{ on := 0, ground := .data }, { on := 0, ground := .phase }, { on := 1, ground := .textOnly Go.Departure.lateStores }, { on := 2, ground := .textOnly Go.Departure.lateStores }, { on := 3, ground := .textOnly Go.Departure.lateStores }, { on := 4, ground := .textOnly Go.Departure.lateStoresUnsure }, { on := 5, ground := .textOnly Go.Departure.lateStores }, { on := 6, ground := .textOnly Go.Departure.lateStores }], guard := none }) rfl (fun K hK => ?_) AllReadyH.nil
    have kz := (unhide Z6).S
    have kzf := (unhide Z6).F
    obtain ⟨wz, hvz, hFZ, hbz⟩ := put3 v6 (unhide Z6) (.int .i64 tm) (.int .i64 vt) (.slice a n cap)
    have hfz : ∀ k, k ≠ w.heap.size + 1 → wz.heap[k]? = v6.heap[k]? := fun k hk => by rw [hvz]; iterate 3 rw [Below.heap_setCell _ _ _ _ hk]
    have P7 := hide ((unhide P6).keep hbz.size (hfz P (by omega)))
    have A7 := hide ((unhide A6).keep hbz.size (hfz w.heap.size (by omega)))
    have Y7 := hide ((unhide Y6).keep hbz.size (hfz (w.heap.size + 2) (by omega)))
    have O7 := hide (own_far (unhide O6) hfz (unhide nz))
    have B7 := hide ((unhide B6).trans (hbz.mono (Nat.le_succ _)))
    have Z7 := hide hFZ
    go_simp
    rw [← hvz]
    refine hK.out _ _ ?_ (fun hHeld7 => ?_)
    ·exact ⟨(unhide P7).S, (unhide A7).S⟩
    clear hK K
    try simp only [Act.put, qqA, qqB, qqC]
    refine wpAnyH_ready (rs := [8]) (by kernel_rfl) (by simp) ?_
    refine AllReadyH.cons (o := { dst := none, op := .store 74 (.tmp 3) (.tmp 52), type := 0, pos := "l07_store.go:166", after := #[{ on := 6, ground := .data }, { on := 7, ground := .chain }, { on := 0, ground := .phase }, { on := 1, ground := .phase }, { on := 2, ground := .phase }, { on := 3, ground := .phase }, { on := 4, ground := .phase }, { on := 5, ground := .phase }, { on := 6, ground := .phase }, { on := 7, ground := .phase }], guard := none }) rfl (fun K hK => ?_) AllReadyH.nil
    clear hvz hfz hbz hFZ kz kzf P6 A6 Y6 O6 B6 Z6
    have ky := (unhide Y7).S
    have kyf := (unhide Y7).F
    obtain ⟨wy, hvy, hFY, hfy, hby⟩ := put2 wz (unhide Y7) (.string (d.extract 0 q)) (.int .i64 (q : Int))
    have P8 := hide ((unhide P7).keep hby.size (hfy P (by omega)))
    have A8 := hide ((unhide A7).keep hby.size (hfy w.heap.size (by omega)))
    have Z8 := hide ((unhide Z7).keep hby.size (hfy (w.heap.size + 1) (by omega)))
    have O8 := hide (own_far (unhide O7) hfy (unhide ny))
    have B8 := hide ((unhide B7).trans (hby.mono (by omega)))
    go_simp
    rw [← hvy]
    refine hK.out _ _ ?_ (fun hHeld8 => ?_)
    ·exact ⟨(unhide P8).S, (unhide A8).S⟩
    clear hK K
    try simp only [Act.put, qqA, qqB, qqC]
    refine wtv 9 (oi := { dst := some 4, op := .assign (.const (.int .i64 0)), type := 3, pos := "l07_store.go:166", after := #[{ on := 8, ground := .chain }, { on := 0, ground := .phase }, { on := 1, ground := .phase }, { on := 2, ground := .phase }, { on := 3, ground := .phase }, { on := 4, ground := .phase }, { on := 5, ground := .phase }, { on := 6, ground := .phase }, { on := 7, ground := .phase }, { on := 8, ground := .phase }], guard := none }) ?_
    refine wpAnyH_done (by kernel_rfl) ?_ _
    have kz := (unhide Z8).S
    have ky2 := hFY.S
    clear hvy hfy hby ky kyf
    go_wp2_with fail
    refine bodyPost_ret (v := .tuple #[.agg #[(.int .i64 tm), (.int .i64 vt), .slice a n cap], .agg #[(.string (d.extract 0 q)), (.int .i64 (q : Int))], .int .i64 0]) (by simp [results, Tryz.results38, go_sem, kz, ky2]) rfl ?_
    exact ⟨.inr ⟨tm, vt, l, a, n, cap, unhide H8, unhide HALk, unhide HN, own_low (unhide O8) (by omega), rfl⟩, unhide B8⟩
end Go.Proofs.YtfogppnijdjakaaGreatDoor
