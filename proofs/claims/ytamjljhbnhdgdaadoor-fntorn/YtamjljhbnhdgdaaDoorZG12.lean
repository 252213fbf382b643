/- Texts put together: AftT AftV. -/
import Derived.Test.YtamjljhbnhdgdaaDoorZG10
import Derived.Test.YtamjljhbnhdgdaaDoorZAftU
/- (State).after at each kind of record: what the program answers. -/
namespace Go.Proofs.YtamjljhbnhdgdaaDoor
open Go.ChangeShapes Go.WideShapes Go.ChangeAt Go.RowKit
set_option linter.unusedVariables false
set_option maxHeartbeats 1000000 in
set_option maxRecDepth 100000 in
theorem iafter_term (tm vt x y : Int) (a : Option Addr) (cap n : Nat) (t : ByteArray) (ht : t.size ≤ 65536) (HF : Hid (∀ m, rfOf t.data.toList = some m → ∀ k (hk : k < m.length), m[k].size ≤ 20000)) (H : Hid (recP t = some (⟨#[116]⟩, [x, y], []))) (w : World) (hE : ErrsIn w) :
  Calls Tryd.prog 41 #[.agg #[.int .i64 tm, .int .i64 vt, .slice a n cap], .string t] w fun e w' => e = .returned (.tuple #[.agg #[.int .i64 x, .int .i64 y, .slice a n cap], .nilIface]) ∧ Below w.heap.size w w' := by
 have B0 := hide (Go.Joins.below_alloc2 w (.cells #[.int .i64 tm, .int .i64 vt, .slice a n cap] 25) (.cells #[.int .i64 0, .int .i64 0, .slice none 0 0] 25))
 have A0 := hide ((BF.new w #[.int .i64 tm, .int .i64 vt, .slice a n cap] 25).alloc (.cells #[.int .i64 0, .int .i64 0, .slice none 0 0] 25))
 have Z0 := hide (BF.new (w.alloc (.cells #[.int .i64 tm, .int .i64 vt, .slice a n cap] 25)) #[.int .i64 0, .int .i64 0, .slice none 0 0] 25)
 rw [show (w.alloc (.cells #[.int .i64 tm, .int .i64 vt, .slice a n cap] 25)).heap.size = w.heap.size + 1 from by simp] at Z0
 have T := irec_some t ⟨#[116]⟩ [x, y] [] ht HF H 2 0 rfl rfl _ (hE.below (unhide B0))
 clear hE
 go_enter Tryd.func41, Tryd.ntmps41
 go_wp2_with fail
 refine T.mono ?_
 clear T
 rintro e w1 ⟨ai, ci, ar, cr, rfl, hi1, hr1, hgi, hgr, hb1⟩
 have hz2 : ((w.alloc (.cells #[.int .i64 tm, .int .i64 vt, .slice a n cap] 25)).alloc (.cells #[.int .i64 0, .int .i64 0, .slice none 0 0] 25)).heap.size = w.heap.size + 2 := by simp
 rw [hz2] at hgi hgr
 clear hz2
 have B1 := hide ((unhide B0).trans (hb1.mono (unhide B0).size))
 have A1 := hide ((unhide A0).below hb1)
 have Z1 := hide ((unhide Z0).below hb1)
 have hsz := (unhide B1).size
 have hlt := (unhide Z1).lt
 have RW := hide (BF.new w1 #[.string ⟨#[116]⟩, .slice ai 2 ci, .slice ar 0 cr] 115)
 have BW := hide ((unhide B1).alloc (unhide B1).size (.cells #[.string ⟨#[116]⟩, .slice ai 2 ci, .slice ar 0 cr] 115))
 have AW := hide ((unhide A1).alloc (.cells #[.string ⟨#[116]⟩, .slice ai 2 ci, .slice ar 0 cr] 115))
 have ZW := hide ((unhide Z1).alloc (.cells #[.string ⟨#[116]⟩, .slice ai 2 ci, .slice ar 0 cr] 115))
 have IW := hide (hi1.below ((Below.refl _ _).alloc (Nat.le_refl _) (.cells #[.string ⟨#[116]⟩, .slice ai 2 ci, .slice ar 0 cr] 115)))
 have HW := hide (hr1.below ((Below.refl _ _).alloc (Nat.le_refl _) (.cells #[.string ⟨#[116]⟩, .slice ai 2 ci, .slice ar 0 cr] 115)))
 clear B0 A0 Z0 hb1 hi1 hr1 A1 Z1 B1
 go_wp2_with fail
 refine (iis_rec ⟨#[116]⟩ ⟨#[116]⟩ ai 2 ci ar 0 cr 2 0 (by decide) (by decide) true rfl _).mono ?_
 rintro e w2 ⟨rfl, hb2⟩
 have B2 := hide ((unhide BW).trans (hb2.mono (unhide BW).size))
 have A2 := hide ((unhide AW).below hb2)
 have Z2 := hide ((unhide ZW).below hb2)
 have R2 := hide ((unhide RW).below hb2)
 obtain ⟨b, off, rfl, hblt, hcel⟩ := ((unhide IW).below hb2).at (by simp [cI])
 have hb9 : w.heap.size + 2 ≤ b := hgi _ rfl
 have kx : w2.cell? ⟨b, off, none⟩ = some (.int .i64 x) := hcel 0 _ (by simp [cI])
 have ky : w2.cell? ⟨b, off + 1, none⟩ = some (.int .i64 y) := hcel 1 _ (by simp [cI])
 clear BW AW ZW RW IW HW hb2 hcel
 have ka := (unhide A2).S
 have kaf := (unhide A2).F
 have kz := (unhide Z2).S
 have kzf := (unhide Z2).F
 have kr := (unhide R2).S
 go_wp2_with fail
 have hn1 : ∀ o o2, (⟨w.heap.size, o, none⟩ : Addr) ≠ ⟨b, o2, none⟩ := by intro o o2 h; injection h with h; omega
 have hn2 : ∀ o o2, (⟨w.heap.size, o, none⟩ : Addr) ≠ ⟨w1.heap.size, o2, none⟩ := by intro o o2 h; injection h with h; omega
 clear hgi hgr
 go_region_held3 (fun w' => w'.cell? ⟨w1.heap.size, 1, none⟩ = some (.slice (some ⟨b, off, none⟩) 2 ci) ∧ w'.cell? ⟨b, off, none⟩ = some (.int .i64 x) ∧ w'.cell? ⟨b, off + 1, none⟩ = some (.int .i64 y)) (first | exact ⟨kr 1, kx, ky⟩ | exact ⟨(World.cell?_setCell_other _ _ _ _ (hn2 0 1)).trans (kr 1), (World.cell?_setCell_other _ _ _ _ (hn1 0 off)).trans kx, (World.cell?_setCell_other _ _ _ _ (hn1 0 (off + 1))).trans ky⟩ | exact ⟨(World.cell?_setCell_other _ _ _ _ (hn2 1 1)).trans ((World.cell?_setCell_other _ _ _ _ (hn2 0 1)).trans (kr 1)), (World.cell?_setCell_other _ _ _ _ (hn1 1 off)).trans ((World.cell?_setCell_other _ _ _ _ (hn1 0 off)).trans kx), (World.cell?_setCell_other _ _ _ _ (hn1 1 (off + 1))).trans ((World.cell?_setCell_other _ _ _ _ (hn1 0 (off + 1))).trans ky)⟩) (fail)
 go_wp2_with fail
 refine bodyPost_ret (v := .tuple #[.agg #[.int .i64 x, .int .i64 y, .slice a n cap], .nilIface]) (by simp [results, Tryd.results41, go_sem, kz]) rfl ⟨rfl, ?_⟩
 repeat first | refine Below.drew ?_ | refine Below.setCell ?_ (by first | exact Nat.le_succ _ | exact Nat.le_refl _) _
 exact unhide B2
end Go.Proofs.YtamjljhbnhdgdaaDoor

/- (State).after: what the program makes of any record. -/
namespace Go.Proofs.YtamjljhbnhdgdaaDoor
open Go.ChangeShapes Go.WideShapes Go.ChangeAt Go.RowKit
set_option linter.unusedVariables false
theorem own_take {w : World} {base g n cap k : Nat} {e : TypeId} {z : Nat} {xs : List Value} (h : w.ownsRow base e z (.slice (some ⟨g, 0, none⟩) n cap) n xs) (hk : k ≤ n) : w.ownsRow base e z (.slice (some ⟨g, 0, none⟩) k cap) k (xs.take (k * z)) := by
 obtain ⟨h1, h2⟩ := h
 have hkz : k * z ≤ n * z := Nat.mul_le_mul_right z hk
 refine ⟨by rw [List.length_take, h1]; omega, ?_⟩
 rcases h2 with ⟨hv, _⟩ | ⟨g', cap', cur, hv, hbg, hg, hnc, hcm, hcs, ht⟩
 ·cases hv
 ·injection hv with e1 e2 e3
  injection e1 with e1
  injection e1 with e1 _ _
  subst e1 e3
  exact .inr ⟨g, cap, cur, rfl, hbg, hg, Nat.le_trans hk hnc, hcm, hcs, by rw [← ht, List.take_take, Nat.min_eq_left hkz]⟩
theorem own_shape {w : World} {base n cap : Nat} {e : TypeId} {z : Nat} {a : Option Addr} {xs : List Value} (h : w.ownsRow base e z (.slice a n cap) n xs) (hn : 0 < n) : ∃ g, a = some ⟨g, 0, none⟩ ∧ n ≤ cap := by
 rcases h.2 with ⟨_, h0⟩ | ⟨g, cap', cur, hv, hbg, hg, hnc, _⟩
 ·omega
 ·injection hv with e1 e2 e3
  exact ⟨g, e1, by rw [e3]; exact hnc⟩
/-- What (State).after answers, as apR tells it. -/
def AftTo (o : Option (Int × Int × List Ent)) (x0 : Addr) (base : Nat) (u : Value) (w' : World) (e : Ending) : Prop :=
 match o with
 | none => e = .returned (.tuple #[.agg #[.int .i64 0, .int .i64 0, .slice none 0 0], .iface 145 (.pointer (some x0))])
 | some (tm2, vt2, l2) => ∃ v, e = .returned (.tuple #[.agg #[.int .i64 tm2, .int .i64 vt2, v], .nilIface]) ∧ w'.ownsRow base 62 2 v l2.length (cE l2) ∧ (v.ownBlock = u.ownBlock ∨ 0 < l2.length)
theorem apK_no {tm vt : Int} {l : List Ent} {f : ByteArray} {L : List Int} {r : List ByteArray} (h1 : (decide (f = ⟨#[116]⟩) && decide (L.length = 2) && decide (r.length = 0)) = false) (h2 : (decide (f = ⟨#[99]⟩) && decide (L.length = 1) && decide (r.length = 0)) = false) (h3 : (decide (f = ⟨#[101]⟩) && decide (L.length = 1) && decide (r.length = 1)) = false) : apK tm vt l f L r = none := by
 unfold apK
 split
 ·simp at h1; rw [if_neg h1]
 ·simp at h2; rw [if_neg (fun h => h2 h.1)]
 ·simp at h3; rw [if_neg h3]
 ·rfl
set_option maxHeartbeats 1000000 in
theorem iafter (tm vt : Int) (a : Option Addr) (cap n : Nat) (l : List (Int × ByteArray)) (HN : Hid (l.length = n)) (hn : n ≤ 1048576) (base : Nat) (t : ByteArray) (ht : t.size ≤ 65536) (HF : Hid (∀ m, rfOf t.data.toList = some m → ∀ k (hk : k < m.length), m[k].size ≤ 20000)) (HK : Hid (∀ f L r, recP t = some (f, L, r) → L.length ≤ 65536 ∧ r.length ≤ 65536)) {x0 x1 x2 x3 x4 : Addr} (w : World) (hE : ErrsIn w) (hS : StE w x0 x1 x2 x3 x4) (hbase : base ≤ w.heap.size) (hown : w.ownsRow base 62 2 (.slice a n cap) n (cE l)) :
  Calls Tryd.prog 41 #[.agg #[.int .i64 tm, .int .i64 vt, .slice a n cap], .string t] w fun e w' => AftTo (apR tm vt l t) x0 base (.slice a n cap) w' e ∧ w'.ownsRow base 62 2 (.slice a n cap) n (cE l) ∧ Below base w w' ∧ w.grownBy w' (Value.slice a n cap).ownBlock := by
 have hnl := unhide HN
 have keep : ∀ w', Below w.heap.size w w' → w'.ownsRow base 62 2 (.slice a n cap) n (cE l) := fun w' hb => ((heldZ_of hown).below hb (Nat.le_refl _)).own
 cases hR : recP t with
 | none =>
  refine (iafter_none tm vt a cap n t ht HF hR w hE hS).mono ?_
  rintro e w' ⟨rfl, hb⟩
  refine ⟨?_, keep w' hb, hb.mono hbase, below_asGrown hb⟩
  show AftTo (apR tm vt l t) x0 base _ w' _
  unfold apR; rw [hR]; rfl
 | some q =>
  obtain ⟨f, L, r⟩ := q
  have hlen := unhide HK f L r hR
  have eR : apR tm vt l t = apK tm vt l f L r := by unfold apR; rw [hR]
  rw [eR]
  cases h1 : (decide (f = ⟨#[116]⟩) && decide (L.length = 2) && decide (r.length = 0)) with
  | true =>
   simp at h1
   obtain ⟨⟨rfl, hL⟩, rfl⟩ := h1
   match L, hL with
   | [x, y], _ =>
    refine (iafter_term tm vt x y a cap n t ht HF hR w hE).mono ?_
    rintro e w' ⟨rfl, hb⟩
    refine ⟨?_, keep w' hb, hb.mono hbase, below_asGrown hb⟩
    show AftTo (some (x, y, l)) x0 base _ w' _
    exact ⟨_, rfl, (by rw [hnl]; exact keep w' hb), .inl rfl⟩
  | false =>
   cases h2 : (decide (f = ⟨#[99]⟩) && decide (L.length = 1) && decide (r.length = 0)) with
   | true =>
    simp at h2
    obtain ⟨⟨rfl, hL⟩, rfl⟩ := h2
    match L, hL with
    | [x], _ =>
     cases hx : inB x 0 ((n : Int) - 1) with
     | false =>
      refine (iafter_nocut tm vt a cap n hn t ht HF x hR hx.symm w hE hS).mono ?_
      rintro e w' ⟨rfl, hb⟩
      refine ⟨?_, keep w' hb, hb.mono hbase, below_asGrown hb⟩
      have e0 : apK tm vt l ⟨#[99]⟩ [x] [] = none := by
       show (if (⟨#[99]⟩ : ByteArray) = ⟨#[99]⟩ ∧ 0 ≤ x ∧ x ≤ (l.length : Int) - 1 then some (tm, vt, l.take x.toNat) else none) = none
       rw [if_neg]
       intro h
       unfold inB at hx
       simp at hx
       have := hx h.2.1
       have := h.2.2
       omega
      rw [e0]
      rfl
     | true =>
      have hx2 : 0 ≤ x ∧ x ≤ (n : Int) - 1 := by unfold inB at hx; simpa using hx
      obtain ⟨c0, rfl⟩ : ∃ c0 : Nat, x = (c0 : Int) := ⟨x.toNat, by omega⟩
      obtain ⟨g, rfl, hcap⟩ := own_shape hown (by omega)
      refine (iafter_cut tm vt g 0 cap n hn hcap t ht HF c0 (by omega) hR w hE).mono ?_
      rintro e w' ⟨rfl, hb⟩
      refine ⟨?_, keep w' hb, hb.mono hbase, below_asGrown hb⟩
      have e0 : apK tm vt l ⟨#[99]⟩ [(c0 : Int)] [] = some (tm, vt, l.take c0) := by
       show (if (⟨#[99]⟩ : ByteArray) = ⟨#[99]⟩ ∧ 0 ≤ (c0 : Int) ∧ (c0 : Int) ≤ (l.length : Int) - 1 then some (tm, vt, l.take (c0 : Int).toNat) else none) = _
       rw [if_pos ⟨rfl, by omega, by omega⟩, Int.toNat_natCast]
      rw [e0]
      refine ⟨_, rfl, ?_, .inl rfl⟩
      rw [List.length_take, Nat.min_eq_left (by omega), cE_take]
      exact own_take (keep w' hb) (by omega)
   | false =>
    cases h3 : (decide (f = ⟨#[101]⟩) && decide (L.length = 1) && decide (r.length = 1)) with
    | true =>
     simp at h3
     obtain ⟨⟨rfl, hL⟩, hr⟩ := h3
     match L, hL, r, hr with
     | [x], _, [d], _ =>
      refine (iafter_ent tm vt x d a cap n l hn base t ht HF hR w hE hbase hown).mono ?_
      rintro e w' ⟨v, rfl, ho, hk, hb, hg⟩
      refine ⟨?_, hk, hb, hg⟩
      show AftTo (some (tm, vt, l ++ [(x, d)])) x0 base _ w' _
      exact ⟨v, rfl, (by rw [List.length_append, hnl]; exact ho), .inr (by rw [List.length_append]; exact Nat.succ_pos _)⟩
    | false =>
     refine (iafter_no tm vt a cap n hn t ht HF f L r L.length r.length hlen.1 hlen.2 rfl rfl hR h1.symm h2.symm h3.symm w hE hS).mono ?_
     rintro e w' ⟨rfl, hb⟩
     refine ⟨?_, keep w' hb, hb.mono hbase, below_asGrown hb⟩
     rw [apK_no h1 h2 h3]
     rfl
end Go.Proofs.YtamjljhbnhdgdaaDoor
