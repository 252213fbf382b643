/- ApplyRecord: what the program answers. -/
import Derived.Test.YtkdplhhkkpkmoaaDoorZG18
import Derived.Test.YtkdplhhkkpkmoaaDoorZG12
namespace Go.Proofs.YtkdplhhkkpkmoaaDoor
open Go.ChangeShapes Go.WideShapes Go.ChangeAt Go.RowKit
set_option linter.unusedVariables false
abbrev oApI0 : Oper := { dst := some 20, op := .load 25 (.tmp 6), type := 25, pos := "l07_store.go:121", after := #[], guard := none }
abbrev oApI1 : Oper := { dst := some 21, op := .move (.tmp 7), type := 51, pos := "l07_store.go:121", after := #[], guard := none }
abbrev oApI2 : Oper := { dst := some 22, op := .call { callee := .value (.func 24), args := #[.tmp 21], argTypes := #[51] }, type := 3, pos := "l07_store.go:121", after := #[{ on := 1, ground := .data }], guard := none }
abbrev oApI3 : Oper := { dst := none, op := .store 25 (.tmp 4) (.tmp 20), type := 0, pos := "l07_store.go:121", after := #[{ on := 0, ground := .data }, { on := 2, ground := .chain }, { on := 0, ground := .phase }, { on := 1, ground := .textOnly Go.Departure.lateStores }, { on := 2, ground := .textOnly Go.Departure.lateStoresUnsure }], guard := none }
abbrev oApI4 : Oper := { dst := some 5, op := .assign (.tmp 22), type := 3, pos := "l07_store.go:121", after := #[{ on := 2, ground := .data }, { on := 3, ground := .chain }, { on := 0, ground := .phase }, { on := 1, ground := .phase }, { on := 2, ground := .phase }, { on := 3, ground := .phase }], guard := none }
/-- What ApplyRecord answers. -/
def ApIs (tm vt : Int) (l : List Ent) (t : ByteArray) (tm' vt' : Int) (l' : List Ent) (c : Int) : Prop :=
 if 65536 < t.size then (tm', vt', l', c) = (0, 0, [], 2)
 else if stateB tm vt l = false then (tm', vt', l', c) = (0, 0, [], 1)
 else match apF tm vt l t with
  | none => (tm', vt', l', c) = (tm, vt, l, 3)
  | some (tm2, vt2, l2) => (tm', vt', l', c) = (tm2, vt2, l2, 0)
set_option maxHeartbeats 4000000 in
set_option maxRecDepth 100000 in
theorem iapply (tm vt : Int) (a : Option Addr) (cap n : Nat) (l : List (Int × ByteArray)) (HN : Hid (l.length = n)) (hn : n ≤ 1048576) (HSZ : Hid (∀ k (h : k < l.length), l[k].2.size ≤ 1048576)) (t : ByteArray) (sz : Nat) (hsz : sz = t.size) (htm : sz ≤ 1048576) (HF : Hid (sz ≤ 65536 → ∀ m, rfOf t.data.toList = some m → ∀ k (hk : k < m.length), m[k].size ≤ 20000)) (HK : Hid (sz ≤ 65536 → ∀ f L r, recP t = some (f, L, r) → L.length ≤ 65536 ∧ r.length ≤ 65536)) (HZ : Hid (sz ≤ 65536 → stateB tm vt l = true → ∀ tm2 vt2 l2, apR tm vt l t = some (tm2, vt2, l2) → l2.length ≤ 1048576 ∧ ∀ k (h : k < l2.length), l2[k].2.size ≤ 1048576)) (tm' vt' : Int) (l' : List (Int × ByteArray)) (n' : Nat) (c : Int) (HIS : Hid (ApIs tm vt l t tm' vt' l' c)) (HN' : Hid (l'.length = n')) {x0 x1 x2 x3 x4 : Addr} (w : World) (hE : ErrsIn w) (hS : StE w x0 x1 x2 x3 x4) (hr : RowV w a (cE l)) :
  Calls Tryd.prog 10 #[.agg #[.int .i64 tm, .int .i64 vt, .slice a n cap], .string t] w fun e w' => ∃ v, e = .returned (.tuple #[.agg #[.int .i64 tm', .int .i64 vt', v], .int .i64 c]) ∧ w'.ownsRow w.heap.size 46 2 v n' (cE l') ∧ Below w.heap.size w w' := by
 have B0 := hide (Go.Joins.below_alloc2 w (.cells #[.int .i64 tm, .int .i64 vt, .slice a n cap] 25) (.cells #[.int .i64 0, .int .i64 0, .slice none 0 0] 25))
 have A0 := hide ((BF.new w #[.int .i64 tm, .int .i64 vt, .slice a n cap] 25).alloc (.cells #[.int .i64 0, .int .i64 0, .slice none 0 0] 25))
 have Z0 := hide (BF.new (w.alloc (.cells #[.int .i64 tm, .int .i64 vt, .slice a n cap] 25)) #[.int .i64 0, .int .i64 0, .slice none 0 0] 25)
 rw [show (w.alloc (.cells #[.int .i64 tm, .int .i64 vt, .slice a n cap] 25)).heap.size = w.heap.size + 1 from by simp] at Z0
 have HR := hide hr
 have HE := hide hE
 have HS := hide hS
 have la : (t.size : Int) = (sz : Int) := by rw [hsz]
 have his := unhide HIS
 unfold ApIs at his
 rw [← hsz] at his
 have HTS := hide hsz
 have kz0 := (unhide Z0).S
 have kzf0 := (unhide Z0).F
 clear hr hE hS hsz HIS
 go_enter Tryd.func10, Tryd.ntmps10
 by_cases hlong : 65536 < sz
 ·rw [if_pos hlong] at his
  simp at his
  obtain ⟨rfl, rfl, rfl, rfl⟩ := his
  obtain rfl : n' = 0 := (unhide HN').symm
  have dl : (65536 : Int) < (sz : Int) := by omega
  go_wp2_with fail
  refine bodyPost_ret (v := .tuple #[.agg #[.int .i64 0, .int .i64 0, .slice none 0 0], .int .i64 2]) (by simp [results, Tryd.results10, go_sem, kz0]) rfl ⟨_, rfl, World.ownsRow_nil _ _ _ _, ?_⟩
  exact unhide B0
 rw [if_neg hlong] at his
 have dl : ¬ (65536 : Int) < (sz : Int) := by omega
 have hs6 : sz ≤ 65536 := by omega
 obtain ⟨R, hRR⟩ : ∃ R, R = stateB tm vt l := ⟨_, rfl⟩
 rw [← hRR] at his
 have HRR := hide hRR
 have HI := hide his
 clear hRR his hlong
 go_wp2_with fail
 refine (istateok tm vt a cap n l HN hn HSZ R HRR _ ((unhide HR).below (unhide B0))).mono ?_
 rintro e w1 ⟨rfl, hb1⟩
 have B1 := hide ((unhide B0).trans (hb1.mono (unhide B0).size))
 have A1 := hide ((unhide A0).below hb1)
 have Z1 := hide ((unhide Z0).below hb1)
 clear hb1 B0 A0 Z0 kz0 kzf0
 have ka := (unhide A1).S
 have kz := (unhide Z1).S
 have kzf := (unhide Z1).F
 cases R with
 | false =>
  obtain ⟨rfl, rfl, rfl, rfl⟩ : tm' = 0 ∧ vt' = 0 ∧ l' = [] ∧ c = 1 := by have := unhide HI; simpa using this
  obtain rfl : n' = 0 := (unhide HN').symm
  go_wp2_with fail
  refine bodyPost_ret (v := .tuple #[.agg #[.int .i64 0, .int .i64 0, .slice none 0 0], .int .i64 1]) (by simp [results, Tryd.results10, go_sem, kz]) rfl ⟨_, rfl, World.ownsRow_nil _ _ _ _, ?_⟩
  iterate 3 refine Below.setCell ?_ (by show w.heap.size ≤ w.heap.size + 1; omega) _
  exact unhide B1
 | true =>
  go_wp2_with fail
  refine (icopied tm vt a cap n l HN hn _ ((unhide HR).below (unhide B1))).mono ?_
  rintro e w2 ⟨v2, rfl, ho2, hb2⟩
  obtain ⟨a2, c2, rfl, -⟩ := ownZ_rowV ho2
  obtain ⟨p, hp⟩ : ∃ p, p = w2.heap.size := ⟨_, rfl⟩
  have OB := (.cells #[.int .i64 tm, .int .i64 vt, .slice a2 n c2] 25 : Obj)
  have hb3 : Below w1.heap.size w1 (w2.alloc (.cells #[.int .i64 tm, .int .i64 vt, .slice a2 n c2] 25)) := hb2.alloc hb2.size _
  have P3 := hide (BF.new w2 #[.int .i64 tm, .int .i64 vt, .slice a2 n c2] 25)
  have O3 := hide (ho2.alloc (.cells #[.int .i64 tm, .int .i64 vt, .slice a2 n c2] 25))
  have Z3 := hide ((unhide Z1).below hb3)
  have B3 := hide ((unhide B1).trans (hb3.mono (unhide B1).size))
  have hne : (Value.slice a2 n c2).ownBlock ≠ some p := fun h => by have := (ho2.lt _ h).2; omega
  have hbp : w1.heap.size ≤ p := by rw [hp]; exact hb2.size
  have zlt := (unhide Z1).lt
  have SK : Hid (∀ w', Below w1.heap.size (w2.alloc (.cells #[.int .i64 tm, .int .i64 vt, .slice a2 n c2] 25)) w' → StE w' x0 x1 x2 x3 x4) := fun w' hb => ((unhide HS).below (unhide B1)).below (hb3.trans hb)
  have E3 := (unhide HE).below (unhide B3)
  have S3 := (unhide HS).below (unhide B3)
  rw [← hp] at P3
  have T := istake p tm vt a2 c2 n l HN hn w1.heap.size t (by rw [← unhide HTS]; exact hs6) (unhide HF hs6) (unhide HK hs6) (unhide HZ hs6 (unhide HRR).symm) _ E3 S3 SK hbp (unhide P3) hne (unhide O3)
  have Z3b := hide (unhide Z3)
  clear ho2 hb2 E3 S3 ka kz kzf hb3 OB
  go_wp2_with fail
  rw [← hp]
  refine T.mono ?_
  clear T hp
  rintro e w5 ⟨hto, hb5⟩
  have B5 := hide ((unhide B3).trans (hb5.mono (by omega)))
  have Z5 := hide ((unhide Z3b).keep hb5.size (hb5.block _ zlt))
  have S5 := hide (unhide SK w5 hb5)
  clear hb5 Z3 Z3b B3 P3 O3 SK
  cases hF : apF tm vt l t with
  | none =>
   rw [hF] at hto
   obtain ⟨⟨x, hx, rfl⟩, hP5, hO5⟩ := hto
   obtain ⟨rfl, rfl, rfl, rfl⟩ : tm = tm' ∧ vt = vt' ∧ l = l' ∧ 3 = c := by
    have h := unhide HI
    rw [hF] at h
    simp at h
    exact ⟨h.1.symm, h.2.1.symm, h.2.2.1.symm, h.2.2.2.symm⟩
   obtain rfl : n = n' := (unhide HN).symm.trans (unhide HN')
   have CODE : Hid (∀ v, StE v x0 x1 x2 x3 x4 → Calls Tryd.prog 24 #[.iface 124 (.pointer (some x))] v fun e w' => e = .returned (.int .i64 3) ∧ w' = v) := by
    intro v hv
    rcases hx with rfl | rfl | rfl
    ·exact icode_0 v hv
    ·exact icode_1 v hv
    ·exact icode_2 v hv
   have P5 := hide hP5.drew
   have hOd := ((heldZ_of hO5).below (Below.refl _ _).drew (Nat.le_refl _)).own
   have nz : (Value.slice a2 n c2).ownBlock ≠ some (w.heap.size + 1) := fun h => by have := (hO5.lt _ h).1; omega
   have O5 := hide hOd
   have kP := hP5.S
   have hpz : p ≠ w.heap.size + 1 := by omega
   replace Z5 := hide (unhide Z5).drew
   replace B5 := hide (unhide B5).drew
   replace S5 := hide ((unhide S5).below (Below.refl _ _).drew)
   clear hP5 hO5 hOd hF HI HF HK HZ
   go_wp2_with fail
   refine wp_region_held_drew (S := fun w' => ∀ o, w'.cell? ⟨p, o, none⟩ = (#[.int .i64 tm, .int .i64 vt, .slice a2 n c2] : Array Value)[o]?) (by kernel_rfl) kP (fun hHeld => ?_)
   generalize w5.drew = v5 at P5 O5 B5 Z5 S5 hHeld ⊢
   refine wtv 0 (oi := oApI0) ?_
   refine wtv 1 (oi := oApI1) ?_
   refine wpAnyH_ready (rs := [2]) (by kernel_rfl) (by simp) ?_
   refine AllReadyH.cons (o := oApI2) rfl (fun K hK => ?_) AllReadyH.nil
   go_simp
   refine (unhide CODE _ (unhide S5)).mono ?_
   rintro e v6 ⟨rfl, rfl⟩
   go_wp2_with fail
   refine hK.out _ _ ?_ (fun hHeld2 => ?_)
   ·exact (unhide P5).S
   clear hK K
   try simp only [Act.put, qqA, qqB, qqC]
   refine wpAnyH_ready (rs := [3]) (by kernel_rfl) (by simp) ?_
   refine AllReadyH.cons (o := oApI3) rfl (fun K hK => ?_) AllReadyH.nil
   have kz := (unhide Z5).S
   have kzf := (unhide Z5).F
   obtain ⟨wz, hvz, hFZ, hbz⟩ := put3 v6 (unhide Z5) (.int .i64 tm) (.int .i64 vt) (.slice a2 n c2)
   have hfz : ∀ k, k ≠ w.heap.size + 1 → wz.heap[k]? = v6.heap[k]? := fun k hk => by rw [hvz]; iterate 3 rw [Below.heap_setCell _ _ _ _ hk]
   go_simp
   rw [← hvz]
   refine hK.out _ _ ?_ (fun hHeld3 => ?_)
   ·exact ((unhide P5).keep (by have := hbz.size; exact this) (hfz p hpz)).S
   clear hK K
   try simp only [Act.put, qqA, qqB, qqC]
   refine wtv 4 (oi := oApI4) ?_
   refine wpAnyH_done (by kernel_rfl) ?_ _
   have kf := hFZ.S
   have OZ := hide (own_far (unhide O5) hfz nz)
   have BZ := hide ((unhide B5).trans (hbz.mono (Nat.le_succ _)))
   clear hvz hfz hbz kz kzf
   go_wp2_with fail
   refine bodyPost_ret (v := .tuple #[.agg #[.int .i64 tm, .int .i64 vt, .slice a2 n c2], .int .i64 3]) (by simp [results, Tryd.results10, go_sem, kf]) rfl ⟨_, rfl, ?_, unhide BZ⟩
   exact own_low (unhide OZ) (by omega)
  | some q =>
   obtain ⟨tm2, vt2, l2⟩ := q
   rw [hF] at hto
   obtain ⟨rfl, v3, hP5, hO5⟩ := hto
   obtain ⟨rfl, rfl, rfl, rfl⟩ : tm2 = tm' ∧ vt2 = vt' ∧ l2 = l' ∧ 0 = c := by
    have h := unhide HI
    rw [hF] at h
    simp at h
    exact ⟨h.1.symm, h.2.1.symm, h.2.2.1.symm, h.2.2.2.symm⟩
   rw [unhide HN'] at hO5
   obtain ⟨a3, c3, rfl, -⟩ := ownZ_rowV hO5
   have P5 := hide hP5.drew
   have hOd := ((heldZ_of hO5).below (Below.refl _ _).drew (Nat.le_refl _)).own
   have nz : (Value.slice a3 n' c3).ownBlock ≠ some (w.heap.size + 1) := fun h => by have := (hO5.lt _ h).1; omega
   have O5 := hide hOd
   have kP := hP5.S
   have hpz : p ≠ w.heap.size + 1 := by omega
   replace Z5 := hide (unhide Z5).drew
   replace B5 := hide (unhide B5).drew
   replace S5 := hide ((unhide S5).below (Below.refl _ _).drew)
   clear hP5 hO5 hOd hF HI HF HK HZ
   go_wp2_with fail
   refine wp_region_held_drew (S := fun w' => ∀ o, w'.cell? ⟨p, o, none⟩ = (#[.int .i64 tm2, .int .i64 vt2, .slice a3 n' c3] : Array Value)[o]?) (by kernel_rfl) kP (fun hHeld => ?_)
   generalize w5.drew = v5 at P5 O5 B5 Z5 S5 hHeld ⊢
   refine wtv 0 (oi := oApI0) ?_
   refine wtv 1 (oi := oApI1) ?_
   refine wpAnyH_ready (rs := [2]) (by kernel_rfl) (by simp) ?_
   refine AllReadyH.cons (o := oApI2) rfl (fun K hK => ?_) AllReadyH.nil
   go_simp
   refine (icode0 _).mono ?_
   rintro e v6 ⟨rfl, rfl⟩
   go_wp2_with fail
   refine hK.out _ _ ?_ (fun hHeld2 => ?_)
   ·exact (unhide P5).S
   clear hK K
   try simp only [Act.put, qqA, qqB, qqC]
   refine wpAnyH_ready (rs := [3]) (by kernel_rfl) (by simp) ?_
   refine AllReadyH.cons (o := oApI3) rfl (fun K hK => ?_) AllReadyH.nil
   have kz := (unhide Z5).S
   have kzf := (unhide Z5).F
   obtain ⟨wz, hvz, hFZ, hbz⟩ := put3 v6 (unhide Z5) (.int .i64 tm2) (.int .i64 vt2) (.slice a3 n' c3)
   have hfz : ∀ k, k ≠ w.heap.size + 1 → wz.heap[k]? = v6.heap[k]? := fun k hk => by rw [hvz]; iterate 3 rw [Below.heap_setCell _ _ _ _ hk]
   go_simp
   rw [← hvz]
   refine hK.out _ _ ?_ (fun hHeld3 => ?_)
   ·exact ((unhide P5).keep (by have := hbz.size; exact this) (hfz p hpz)).S
   clear hK K
   try simp only [Act.put, qqA, qqB, qqC]
   refine wtv 4 (oi := oApI4) ?_
   refine wpAnyH_done (by kernel_rfl) ?_ _
   have kf := hFZ.S
   have OZ := hide (own_far (unhide O5) hfz nz)
   have BZ := hide ((unhide B5).trans (hbz.mono (Nat.le_succ _)))
   clear hvz hfz hbz kz kzf
   go_wp2_with fail
   refine bodyPost_ret (v := .tuple #[.agg #[.int .i64 tm2, .int .i64 vt2, .slice a3 n' c3], .int .i64 0]) (by simp [results, Tryd.results10, go_sem, kf]) rfl ⟨_, rfl, ?_, unhide BZ⟩
   exact own_low (unhide OZ) (by omega)
end Go.Proofs.YtkdplhhkkpkmoaaDoor
