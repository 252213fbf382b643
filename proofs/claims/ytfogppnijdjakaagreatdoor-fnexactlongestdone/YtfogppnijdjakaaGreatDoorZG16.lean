/- Texts put together: AftT AftV SteI TakS. -/
import Derived.Test.YtfogppnijdjakaaGreatDoorZG14
import Derived.Test.YtfogppnijdjakaaGreatDoorZAftU
import Derived.Test.YtfogppnijdjakaaGreatDoorZG1
import Derived.Test.YtfogppnijdjakaaGreatDoorZG2
import Derived.Lib.SmallJoins
import Derived.BigQuiet
/- (State).after at each kind of record: what the program answers. -/
namespace Go.Proofs.YtfogppnijdjakaaGreatDoor
open Go.ChangeShapes Go.WideShapes Go.ChangeAt Go.RowKit
set_option linter.unusedVariables false
set_option maxHeartbeats 1000000 in
set_option maxRecDepth 100000 in
theorem iafter_term (tm vt x y : Int) (a : Option Addr) (cap n : Nat) (t : ByteArray) (ht : t.size ≤ 65536) (HF : Hid (∀ m, rfOf t.data.toList = some m → ∀ k (hk : k < m.length), m[k].size ≤ 20000)) (H : Hid (recP t = some (⟨#[116]⟩, [x, y], []))) (w : World) (hE : ErrsIn w) :
  Calls Tryz.prog 105 #[.agg #[.int .i64 tm, .int .i64 vt, .slice a n cap], .string t] w fun e w' => e = .returned (.tuple #[.agg #[.int .i64 x, .int .i64 y, .slice a n cap], .nilIface]) ∧ Below w.heap.size w w' := by
 have B0 := hide (Go.Joins.below_alloc2 w (.cells #[.int .i64 tm, .int .i64 vt, .slice a n cap] 76) (.cells #[.int .i64 0, .int .i64 0, .slice none 0 0] 76))
 have A0 := hide ((BF.new w #[.int .i64 tm, .int .i64 vt, .slice a n cap] 76).alloc (.cells #[.int .i64 0, .int .i64 0, .slice none 0 0] 76))
 have Z0 := hide (BF.new (w.alloc (.cells #[.int .i64 tm, .int .i64 vt, .slice a n cap] 76)) #[.int .i64 0, .int .i64 0, .slice none 0 0] 76)
 rw [show (w.alloc (.cells #[.int .i64 tm, .int .i64 vt, .slice a n cap] 76)).heap.size = w.heap.size + 1 from by simp] at Z0
 have T := irec_some t ⟨#[116]⟩ [x, y] [] ht HF H 2 0 rfl rfl _ (hE.below (unhide B0))
 clear hE
 go_enter Tryz.func105, Tryz.ntmps105
 go_wp2_with fail
 refine T.mono ?_
 clear T
 rintro e w1 ⟨ai, ci, ar, cr, rfl, hi1, hr1, hgi, hgr, hb1⟩
 have hz2 : ((w.alloc (.cells #[.int .i64 tm, .int .i64 vt, .slice a n cap] 76)).alloc (.cells #[.int .i64 0, .int .i64 0, .slice none 0 0] 76)).heap.size = w.heap.size + 2 := by simp
 rw [hz2] at hgi hgr
 clear hz2
 have B1 := hide ((unhide B0).trans (hb1.mono (unhide B0).size))
 have A1 := hide ((unhide A0).below hb1)
 have Z1 := hide ((unhide Z0).below hb1)
 have hsz := (unhide B1).size
 have hlt := (unhide Z1).lt
 have RW := hide (BF.new w1 #[.string ⟨#[116]⟩, .slice ai 2 ci, .slice ar 0 cr] 154)
 have BW := hide ((unhide B1).alloc (unhide B1).size (.cells #[.string ⟨#[116]⟩, .slice ai 2 ci, .slice ar 0 cr] 154))
 have AW := hide ((unhide A1).alloc (.cells #[.string ⟨#[116]⟩, .slice ai 2 ci, .slice ar 0 cr] 154))
 have ZW := hide ((unhide Z1).alloc (.cells #[.string ⟨#[116]⟩, .slice ai 2 ci, .slice ar 0 cr] 154))
 have IW := hide (hi1.below ((Below.refl _ _).alloc (Nat.le_refl _) (.cells #[.string ⟨#[116]⟩, .slice ai 2 ci, .slice ar 0 cr] 154)))
 have HW := hide (hr1.below ((Below.refl _ _).alloc (Nat.le_refl _) (.cells #[.string ⟨#[116]⟩, .slice ai 2 ci, .slice ar 0 cr] 154)))
 clear B0 A0 Z0 hb1 hi1 hr1 A1 Z1 B1
 go_wp2_with fail
 refine (iis_rec ⟨#[116]⟩ ⟨#[116]⟩ ai 2 ci ar 0 cr 2 0 (by decide) (by decide) true rfl _).mono ?_
 rintro e w2 ⟨rfl, hb2⟩
 have B2 := hide ((unhide BW).trans (hb2.mono (unhide BW).size))
 have A2 := hide ((unhide AW).below hb2)
 have Z2 := hide ((unhide ZW).below hb2)
 have R2 := hide ((unhide RW).below hb2)
 obtain ⟨b, off, rfl, hblt, hcel⟩ := ((unhide IW).below hb2).at (by simp [cI])
 have hb9 : w.heap.size + 2 ≤ b := hgi _ rfl
 have kx : w2.cell? ⟨b, off, none⟩ = some (.int .i64 x) := hcel 0 _ (by simp [cI])
 have ky : w2.cell? ⟨b, off + 1, none⟩ = some (.int .i64 y) := hcel 1 _ (by simp [cI])
 clear BW AW ZW RW IW HW hb2 hcel
 have ka := (unhide A2).S
 have kaf := (unhide A2).F
 have kz := (unhide Z2).S
 have kzf := (unhide Z2).F
 have kr := (unhide R2).S
 go_wp2_with fail
 have hn1 : ∀ o o2, (⟨w.heap.size, o, none⟩ : Addr) ≠ ⟨b, o2, none⟩ := by intro o o2 h; injection h with h; omega
 have hn2 : ∀ o o2, (⟨w.heap.size, o, none⟩ : Addr) ≠ ⟨w1.heap.size, o2, none⟩ := by intro o o2 h; injection h with h; omega
 clear hgi hgr
 go_region_held3 (fun w' => w'.cell? ⟨w1.heap.size, 1, none⟩ = some (.slice (some ⟨b, off, none⟩) 2 ci) ∧ w'.cell? ⟨b, off, none⟩ = some (.int .i64 x) ∧ w'.cell? ⟨b, off + 1, none⟩ = some (.int .i64 y)) (first | exact ⟨kr 1, kx, ky⟩ | exact ⟨(World.cell?_setCell_other _ _ _ _ (hn2 0 1)).trans (kr 1), (World.cell?_setCell_other _ _ _ _ (hn1 0 off)).trans kx, (World.cell?_setCell_other _ _ _ _ (hn1 0 (off + 1))).trans ky⟩ | exact ⟨(World.cell?_setCell_other _ _ _ _ (hn2 1 1)).trans ((World.cell?_setCell_other _ _ _ _ (hn2 0 1)).trans (kr 1)), (World.cell?_setCell_other _ _ _ _ (hn1 1 off)).trans ((World.cell?_setCell_other _ _ _ _ (hn1 0 off)).trans kx), (World.cell?_setCell_other _ _ _ _ (hn1 1 (off + 1))).trans ((World.cell?_setCell_other _ _ _ _ (hn1 0 (off + 1))).trans ky)⟩) (fail)
 go_wp2_with fail
 refine bodyPost_ret (v := .tuple #[.agg #[.int .i64 x, .int .i64 y, .slice a n cap], .nilIface]) (by simp [results, Tryz.results105, go_sem, kz]) rfl ⟨rfl, ?_⟩
 repeat first | refine Below.drew ?_ | refine Below.setCell ?_ (by first | exact Nat.le_succ _ | exact Nat.le_refl _) _
 exact unhide B2
end Go.Proofs.YtfogppnijdjakaaGreatDoor

/- (State).after: what the program makes of any record. -/
namespace Go.Proofs.YtfogppnijdjakaaGreatDoor
open Go.ChangeShapes Go.WideShapes Go.ChangeAt Go.RowKit
set_option linter.unusedVariables false
theorem own_take {w : World} {base g n cap k : Nat} {e : TypeId} {z : Nat} {xs : List Value} (h : w.ownsRow base e z (.slice (some ⟨g, 0, none⟩) n cap) n xs) (hk : k ≤ n) : w.ownsRow base e z (.slice (some ⟨g, 0, none⟩) k cap) k (xs.take (k * z)) := by
 obtain ⟨h1, h2⟩ := h
 have hkz : k * z ≤ n * z := Nat.mul_le_mul_right z hk
 refine ⟨by rw [List.length_take, h1]; omega, ?_⟩
 rcases h2 with ⟨hv, _⟩ | ⟨g', cap', cur, hv, hbg, hg, hnc, hcm, hcs, ht⟩
 ·cases hv
 ·injection hv with e1 e2 e3
  injection e1 with e1
  injection e1 with e1 _ _
  subst e1 e3
  exact .inr ⟨g, cap, cur, rfl, hbg, hg, Nat.le_trans hk hnc, hcm, hcs, by rw [← ht, List.take_take, Nat.min_eq_left hkz]⟩
theorem own_shape {w : World} {base n cap : Nat} {e : TypeId} {z : Nat} {a : Option Addr} {xs : List Value} (h : w.ownsRow base e z (.slice a n cap) n xs) (hn : 0 < n) : ∃ g, a = some ⟨g, 0, none⟩ ∧ n ≤ cap := by
 rcases h.2 with ⟨_, h0⟩ | ⟨g, cap', cur, hv, hbg, hg, hnc, _⟩
 ·omega
 ·injection hv with e1 e2 e3
  exact ⟨g, e1, by rw [e3]; exact hnc⟩
/-- What (State).after answers, as apR tells it. -/
def AftTo (o : Option (Int × Int × List Ent)) (x0 : Addr) (base : Nat) (u : Value) (w' : World) (e : Ending) : Prop :=
 match o with
 | none => e = .returned (.tuple #[.agg #[.int .i64 0, .int .i64 0, .slice none 0 0], .iface 194 (.pointer (some x0))])
 | some (tm2, vt2, l2) => ∃ v, e = .returned (.tuple #[.agg #[.int .i64 tm2, .int .i64 vt2, v], .nilIface]) ∧ w'.ownsRow base 103 2 v l2.length (cE l2) ∧ (v.ownBlock = u.ownBlock ∨ 0 < l2.length)
theorem apK_no {tm vt : Int} {l : List Ent} {f : ByteArray} {L : List Int} {r : List ByteArray} (h1 : (decide (f = ⟨#[116]⟩) && decide (L.length = 2) && decide (r.length = 0)) = false) (h2 : (decide (f = ⟨#[99]⟩) && decide (L.length = 1) && decide (r.length = 0)) = false) (h3 : (decide (f = ⟨#[101]⟩) && decide (L.length = 1) && decide (r.length = 1)) = false) : apK tm vt l f L r = none := by
 unfold apK
 split
 ·simp at h1; rw [if_neg h1]
 ·simp at h2; rw [if_neg (fun h => h2 h.1)]
 ·simp at h3; rw [if_neg h3]
 ·rfl
set_option maxHeartbeats 1000000 in
theorem iafter (tm vt : Int) (a : Option Addr) (cap n : Nat) (l : List (Int × ByteArray)) (HN : Hid (l.length = n)) (hn : n ≤ 1048576) (base : Nat) (t : ByteArray) (ht : t.size ≤ 65536) (HF : Hid (∀ m, rfOf t.data.toList = some m → ∀ k (hk : k < m.length), m[k].size ≤ 20000)) (HK : Hid (∀ f L r, recP t = some (f, L, r) → L.length ≤ 65536 ∧ r.length ≤ 65536)) {x0 x1 x2 x3 x4 : Addr} (w : World) (hE : ErrsIn w) (hS : StE w x0 x1 x2 x3 x4) (hbase : base ≤ w.heap.size) (hown : w.ownsRow base 103 2 (.slice a n cap) n (cE l)) :
  Calls Tryz.prog 105 #[.agg #[.int .i64 tm, .int .i64 vt, .slice a n cap], .string t] w fun e w' => AftTo (apR tm vt l t) x0 base (.slice a n cap) w' e ∧ w'.ownsRow base 103 2 (.slice a n cap) n (cE l) ∧ Below base w w' ∧ w.grownBy w' (Value.slice a n cap).ownBlock := by
 have hnl := unhide HN
 have keep : ∀ w', Below w.heap.size w w' → w'.ownsRow base 103 2 (.slice a n cap) n (cE l) := fun w' hb => ((heldZ_of hown).below hb (Nat.le_refl _)).own
 cases hR : recP t with
 | none =>
  refine (iafter_none tm vt a cap n t ht HF hR w hE hS).mono ?_
  rintro e w' ⟨rfl, hb⟩
  refine ⟨?_, keep w' hb, hb.mono hbase, below_asGrown hb⟩
  show AftTo (apR tm vt l t) x0 base _ w' _
  unfold apR; rw [hR]; rfl
 | some q =>
  obtain ⟨f, L, r⟩ := q
  have hlen := unhide HK f L r hR
  have eR : apR tm vt l t = apK tm vt l f L r := by unfold apR; rw [hR]
  rw [eR]
  cases h1 : (decide (f = ⟨#[116]⟩) && decide (L.length = 2) && decide (r.length = 0)) with
  | true =>
   simp at h1
   obtain ⟨⟨rfl, hL⟩, rfl⟩ := h1
   match L, hL with
   | [x, y], _ =>
    refine (iafter_term tm vt x y a cap n t ht HF hR w hE).mono ?_
    rintro e w' ⟨rfl, hb⟩
    refine ⟨?_, keep w' hb, hb.mono hbase, below_asGrown hb⟩
    show AftTo (some (x, y, l)) x0 base _ w' _
    exact ⟨_, rfl, (by rw [hnl]; exact keep w' hb), .inl rfl⟩
  | false =>
   cases h2 : (decide (f = ⟨#[99]⟩) && decide (L.length = 1) && decide (r.length = 0)) with
   | true =>
    simp at h2
    obtain ⟨⟨rfl, hL⟩, rfl⟩ := h2
    match L, hL with
    | [x], _ =>
     cases hx : inB x 0 ((n : Int) - 1) with
     | false =>
      refine (iafter_nocut tm vt a cap n hn t ht HF x hR hx.symm w hE hS).mono ?_
      rintro e w' ⟨rfl, hb⟩
      refine ⟨?_, keep w' hb, hb.mono hbase, below_asGrown hb⟩
      have e0 : apK tm vt l ⟨#[99]⟩ [x] [] = none := by
       show (if (⟨#[99]⟩ : ByteArray) = ⟨#[99]⟩ ∧ 0 ≤ x ∧ x ≤ (l.length : Int) - 1 then some (tm, vt, l.take x.toNat) else none) = none
       rw [if_neg]
       intro h
       unfold inB at hx
       simp at hx
       have := hx h.2.1
       have := h.2.2
       omega
      rw [e0]
      rfl
     | true =>
      have hx2 : 0 ≤ x ∧ x ≤ (n : Int) - 1 := by unfold inB at hx; simpa using hx
      obtain ⟨c0, rfl⟩ : ∃ c0 : Nat, x = (c0 : Int) := ⟨x.toNat, by omega⟩
      obtain ⟨g, rfl, hcap⟩ := own_shape hown (by omega)
      refine (iafter_cut tm vt g 0 cap n hn hcap t ht HF c0 (by omega) hR w hE).mono ?_
      rintro e w' ⟨rfl, hb⟩
      refine ⟨?_, keep w' hb, hb.mono hbase, below_asGrown hb⟩
      have e0 : apK tm vt l ⟨#[99]⟩ [(c0 : Int)] [] = some (tm, vt, l.take c0) := by
       show (if (⟨#[99]⟩ : ByteArray) = ⟨#[99]⟩ ∧ 0 ≤ (c0 : Int) ∧ (c0 : Int) ≤ (l.length : Int) - 1 then some (tm, vt, l.take (c0 : Int).toNat) else none) = _
       rw [if_pos ⟨rfl, by omega, by omega⟩, Int.toNat_natCast]
      rw [e0]
      refine ⟨_, rfl, ?_, .inl rfl⟩
      rw [List.length_take, Nat.min_eq_left (by omega), cE_take]
      exact own_take (keep w' hb) (by omega)
   | false =>
    cases h3 : (decide (f = ⟨#[101]⟩) && decide (L.length = 1) && decide (r.length = 1)) with
    | true =>
     simp at h3
     obtain ⟨⟨rfl, hL⟩, hr⟩ := h3
     match L, hL, r, hr with
     | [x], _, [d], _ =>
      refine (iafter_ent tm vt x d a cap n l hn base t ht HF hR w hE hbase hown).mono ?_
      rintro e w' ⟨v, rfl, ho, hk, hb, hg⟩
      refine ⟨?_, hk, hb, hg⟩
      show AftTo (some (tm, vt, l ++ [(x, d)])) x0 base _ w' _
      exact ⟨v, rfl, (by rw [List.length_append, hnl]; exact ho), .inr (by rw [List.length_append]; exact Nat.succ_pos _)⟩
    | false =>
     refine (iafter_no tm vt a cap n hn t ht HF f L r L.length r.length hlen.1 hlen.2 rfl rfl hR h1.symm h2.symm h3.symm w hE hS).mono ?_
     rintro e w' ⟨rfl, hb⟩
     refine ⟨?_, keep w' hb, hb.mono hbase, below_asGrown hb⟩
     rw [apK_no h1 h2 h3]
     rfl
end Go.Proofs.YtfogppnijdjakaaGreatDoor

/- Which states are right: what the program answers. -/
namespace Go.Proofs.YtfogppnijdjakaaGreatDoor
open Go.ChangeShapes Go.WideShapes Go.ChangeAt Go.RowKit
set_option linter.unusedVariables false
set_option maxHeartbeats 2000000 in
set_option maxRecDepth 100000 in
theorem ilogok (tm vt : Int) (a : Option Addr) (cap n : Nat) (l : List Ent) (HN : Hid (l.length = n)) (hn : n ≤ 60) (HSZ : Hid (∀ k (h : k < l.length), l[k].2.size ≤ 1048576)) (R : Bool) (HR : Hid (R = logB tm 1 l)) (w : World) (hr : RowV w a (cE l)) :
  Calls Tryz.prog 94 #[.agg #[.int .i64 tm, .int .i64 vt, .slice a n cap]] w fun e w' => e = .returned (.bool R) ∧ Below w.heap.size w w' := by
 have B0 := hide (Go.Joins.below_alloc1 w (.cells #[.int .i64 tm, .int .i64 vt, .slice a n cap] 76))
 have A0 := hide (BF.new w #[.int .i64 tm, .int .i64 vt, .slice a n cap] 76)
 have HRW := hide hr
 have HCL := hide (cE_len l)
 clear hr
 go_enter Tryz.func94, Tryz.ntmps94
 go_wp2_with fail
 go_loopw [3, 9] (fun p i wr => ∃ (k : Nat) (q : Int), k ≤ n ∧ i = .int .i64 k ∧ p = .int .i64 q ∧ Hid (R = logB tm q (l.drop k)) ∧ Hid (BF w.heap.size #[.int .i64 tm, .int .i64 vt, .slice a n cap] wr) ∧ Hid (Below w.heap.size w wr)) (fun _ i _ => n - (intOf i).toNat)
 case atStart => exact ⟨0, 1, by omega, rfl, rfl, HR, A0, B0⟩
 case round =>
  clear A0 B0 HR
  obtain ⟨k, q, hk, rfl, rfl, HQ, A1, B1⟩ := hrel
  by_cases hlt : k < n
  ·obtain ⟨b, off, ha, hblt, hc⟩ := (unhide HRW).at (by rw [unhide HCL, unhide HN]; omega)
   subst ha
   have hlk : k < l.length := by rw [unhide HN]; exact hlt
   obtain ⟨x0, x1⟩ := row_ent hc k hlk
   obtain ⟨t, et⟩ : ∃ t, t = l[k].1 := ⟨_, rfl⟩
   obtain ⟨d, ed⟩ : ∃ d, d = l[k].2 := ⟨_, rfl⟩
   have hs : d.size ≤ 1048576 := by rw [ed]; exact unhide HSZ k hlk
   have hq := (unhide HQ).trans (logB_step tm q l k hlk)
   unfold entB at hq
   rw [← et, ← ed] at hq
   rw [← et] at x0
   rw [← ed] at x1
   have hx0 : wr.cell? ⟨b, off + k * 2, none⟩ = some (.int .i64 t) := ((unhide B1).cell (p := ⟨b, off + k * 2, none⟩) hblt).trans x0
   have hx1 : wr.cell? ⟨b, off + k * 2 + 1, none⟩ = some (.string d) := ((unhide B1).cell (p := ⟨b, off + k * 2 + 1, none⟩) hblt).trans x1
   have hlt' : (k : Int) < (n : Int) := by omega
   have hlt0 : (0 : Int) ≤ (k : Int) := by omega
   obtain ⟨sz, hsz⟩ : ∃ sz : Nat, sz = d.size := ⟨_, rfl⟩
   rw [← hsz] at hs hq
   have la : (d.size : Int) = (sz : Int) := by rw [hsz]
   have HQ2 := hide hq
   obtain ⟨R1, hR1⟩ : ∃ R1, R1 = inB t q tm := ⟨_, rfl⟩
   have HR1 := hide hR1
   have B2 := hide ((unhide B1).alloc (unhide B1).size (.cells #[.int .i64 t, .string d] 103))
   have A2 := hide ((unhide A1).alloc (.cells #[.int .i64 t, .string d] 103))
   have a2 := (unhide A2).S
   clear hc x0 x1 et ed hsz hq hR1 HQ A1 B1 HRW HCL HSZ
   go_wp2_with fail
   refine (iwi t q tm R1 HR1 _).mono ?_
   rintro e w2 ⟨rfl, rfl⟩
   cases R1 with
   | false =>
    have hR : R = false := by have := unhide HQ2; rw [← unhide HR1] at this; simpa using this
    subst hR
    go_wp2_with fail
    go_ret
    exact ⟨rfl, unhide B2⟩
   | true =>
    by_cases h4 : sz ≤ 400
    ·have HQ3 : Hid (R = logB tm t (l.drop (k + 1))) := by show _ = _; have := unhide HQ2; rw [← unhide HR1, decide_eq_true h4] at this; simpa using this
     clear HQ2 HR1
     go_wp2_with fail
     go_roundw
     case rel => exact ⟨k + 1, t, by omega, by go_num, rfl, HQ3, A2, B2⟩
     case measure => simp [intOf]; omega
    ·have hR : R = false := by have := unhide HQ2; rw [← unhide HR1, decide_eq_false h4] at this; simpa using this
     subst hR
     go_wp2_with fail
     go_ret
     exact ⟨rfl, unhide B2⟩
  ·have hR : R = true := (unhide HQ).trans (logB_end _ _ _ _ (by rw [unhide HN]; omega))
   subst hR
   go_wp2_with fail
   go_ret
   exact ⟨rfl, unhide B1⟩
set_option maxHeartbeats 2000000 in
set_option maxRecDepth 100000 in
theorem istateok (tm vt : Int) (a : Option Addr) (cap n : Nat) (l : List Ent) (HN : Hid (l.length = n)) (hn : n ≤ 1048576) (HSZ : Hid (∀ k (h : k < l.length), l[k].2.size ≤ 1048576)) (R : Bool) (HR : Hid (R = stateB tm vt l)) (w : World) (hr : RowV w a (cE l)) :
  Calls Tryz.prog 83 #[.agg #[.int .i64 tm, .int .i64 vt, .slice a n cap]] w fun e w' => e = .returned (.bool R) ∧ Below w.heap.size w w' := by
 have B0 := hide (Go.Joins.below_alloc1 w (.cells #[.int .i64 tm, .int .i64 vt, .slice a n cap] 76))
 have HRW := hide (hr.below (unhide B0))
 obtain ⟨R1, hR1⟩ : ∃ R1, R1 = inB tm 0 1000 := ⟨_, rfl⟩
 have HR1 := hide hR1
 obtain ⟨R2, hR2⟩ : ∃ R2, R2 = inB vt (-1) 4 := ⟨_, rfl⟩
 have HR2 := hide hR2
 clear hr hR1 hR2
 go_enter Tryz.func83, Tryz.ntmps83
 go_wp2_with fail
 refine (iwi tm 0 1000 R1 HR1 _).mono ?_
 rintro e w1 ⟨rfl, rfl⟩
 cases R1 with
 | false =>
  have hR : R = false := (unhide HR).trans (st1 (unhide HR1).symm)
  subst hR
  go_wp2_with fail
  go_ret
  exact ⟨rfl, unhide B0⟩
 | true =>
  go_wp2_with fail
  refine (iwi vt (-1) 4 R2 HR2 _).mono ?_
  rintro e w1 ⟨rfl, rfl⟩
  cases R2 with
  | false =>
   have hR : R = false := (unhide HR).trans (st2 (unhide HR2).symm)
   subst hR
   go_wp2_with fail
   go_ret
   exact ⟨rfl, unhide B0⟩
  | true =>
   by_cases h6 : n ≤ 60
   ·have HR4 : Hid (R = logB tm 1 l) := by show _ = _; exact (unhide HR).trans (st4 (unhide HR1).symm (unhide HR2).symm (by rw [unhide HN]; exact h6))
    clear HR HR1 HR2
    go_wp2_with fail
    refine (ilogok tm vt a cap n l HN h6 HSZ R HR4 _ (unhide HRW)).mono ?_
    rintro e w2 ⟨rfl, hb2⟩
    have B2 := hide ((unhide B0).trans (hb2.mono (unhide B0).size))
    clear hb2 B0 HRW
    go_wp2_with fail
    go_ret
    exact ⟨rfl, unhide B2⟩
   ·have hR : R = false := (unhide HR).trans (st3 (by rw [unhide HN]; exact h6))
    subst hR
    go_wp2_with fail
    go_ret
    exact ⟨rfl, unhide B0⟩
end Go.Proofs.YtfogppnijdjakaaGreatDoor

/- (*State).take: what the program makes of any record, in place. -/
namespace Go.Proofs.YtfogppnijdjakaaGreatDoor
open Go.ChangeShapes Go.WideShapes Go.ChangeAt Go.RowKit
set_option linter.unusedVariables false
/-- What take answers, and what it leaves: apF's. -/
def TakTo (o : Option (Int × Int × List Ent)) (x0 x1 x2 : Addr) (p : Nat) (tm vt : Int) (v : Value) (n : Nat) (l : List Ent) (base : Nat) (w' : World) (e : Ending) : Prop :=
 match o with
 | none => (∃ x, (x = x0 ∨ x = x1 ∨ x = x2) ∧ e = .returned (.iface 194 (.pointer (some x)))) ∧ BF p #[.int .i64 tm, .int .i64 vt, v] w' ∧ w'.ownsRow base 103 2 v n (cE l)
 | some (tm2, vt2, l2) => e = .returned .nilIface ∧ ∃ v2, BF p #[.int .i64 tm2, .int .i64 vt2, v2] w' ∧ w'.ownsRow base 103 2 v2 l2.length (cE l2)
theorem apF_none {tm vt : Int} {l : List Ent} {t : ByteArray} (h : apR tm vt l t = none) : apF tm vt l t = none := by unfold apF; rw [h]
theorem apF_bad {tm vt tm2 vt2 : Int} {l l2 : List Ent} {t : ByteArray} (h : apR tm vt l t = some (tm2, vt2, l2)) (hb : ¬ (stateB tm2 vt2 l2 = true ∧ tm ≤ tm2)) : apF tm vt l t = none := by unfold apF; rw [h]; simp only; rw [if_neg hb]
theorem apF_ok {tm vt tm2 vt2 : Int} {l l2 : List Ent} {t : ByteArray} (h : apR tm vt l t = some (tm2, vt2, l2)) (hb : stateB tm2 vt2 l2 = true ∧ tm ≤ tm2) : apF tm vt l t = some (tm2, vt2, l2) := by unfold apF; rw [h]; simp only; rw [if_pos hb]
set_option maxHeartbeats 4000000 in
set_option maxRecDepth 100000 in
theorem istake (p : Nat) (tm vt : Int) (a : Option Addr) (cap n : Nat) (l : List (Int × ByteArray)) (HN : Hid (l.length = n)) (hn : n ≤ 1048576) (base : Nat) (t : ByteArray) (ht : t.size ≤ 65536) (HF : Hid (∀ m, rfOf t.data.toList = some m → ∀ k (hk : k < m.length), m[k].size ≤ 20000)) (HK : Hid (∀ f L r, recP t = some (f, L, r) → L.length ≤ 65536 ∧ r.length ≤ 65536)) (HZ : Hid (∀ tm2 vt2 l2, apR tm vt l t = some (tm2, vt2, l2) → l2.length ≤ 1048576 ∧ ∀ k (h : k < l2.length), l2[k].2.size ≤ 1048576)) {x0 x1 x2 x3 x4 : Addr} (w : World) (hE : ErrsIn w) (hS : StE w x0 x1 x2 x3 x4) (hSk : Hid (∀ w', Below base w w' → StE w' x0 x1 x2 x3 x4)) (hbase : base ≤ p) (hp : BF p #[.int .i64 tm, .int .i64 vt, .slice a n cap] w) (hne : (Value.slice a n cap).ownBlock ≠ some p) (hown : w.ownsRow base 103 2 (.slice a n cap) n (cE l)) :
  Calls Tryz.prog 98 #[.pointer (some ⟨p, 0, none⟩), .string t] w fun e w' => TakTo (apF tm vt l t) x0 x1 x2 p tm vt (.slice a n cap) n l base w' e ∧ Below base w w' := by
 have hpl := hp.lt
 have T := iafter tm vt a cap n l HN hn base t ht HF HK w hE hS (by omega) hown
 have c0 := hp.S
 clear hown hE hS
 go_enter Tryz.func98, Tryz.ntmps98
 go_wp2_with fail
 refine T.mono ?_
 clear T
 rintro e w1 ⟨hto, ho1, hb1, hg1⟩
 have P1 := hide (hp.grown hg1 hne)
 have B1 := hide hb1
 have O1 := hide ho1
 have S1 := hide (unhide hSk _ hb1)
 clear hp c0 hb1 ho1 hg1
 cases hR : apR tm vt l t with
 | none =>
  rw [hR] at hto
  have he : e = .returned (.tuple #[.agg #[.int .i64 0, .int .i64 0, .slice none 0 0], .iface 194 (.pointer (some x0))]) := hto
  subst he
  have EF := hide (apF_none hR)
  have B2 := hide ((unhide B1).alloc (by have := (unhide B1).size; omega) (.cells #[.int .i64 0, .int .i64 0, .slice none 0 0] 76))
  have P2 := hide ((unhide P1).alloc (.cells #[.int .i64 0, .int .i64 0, .slice none 0 0] 76))
  have O2 := hide ((unhide O1).alloc (.cells #[.int .i64 0, .int .i64 0, .slice none 0 0] 76))
  clear hto hR
  go_wp2_with fail
  go_ret
  refine ⟨?_, unhide B2⟩
  rw [unhide EF]
  exact ⟨⟨x0, .inl rfl, rfl⟩, unhide P2, unhide O2⟩
 | some q =>
  obtain ⟨tm2, vt2, l2⟩ := q
  rw [hR] at hto
  obtain ⟨v2, rfl, ho2, hv2⟩ := hto
  have hz := unhide HZ tm2 vt2 l2 hR
  obtain ⟨n2, hN2⟩ : ∃ n2, l2.length = n2 := ⟨_, rfl⟩
  rw [hN2] at ho2 hv2
  obtain ⟨a2, c2, rfl, hr2⟩ := ownZ_rowV ho2
  have HL2 := hide hN2
  have HS2 := hide hz.2
  have hn2 : n2 ≤ 1048576 := by rw [← hN2]; exact hz.1
  have B2 := hide ((unhide B1).alloc (by have := (unhide B1).size; omega) (.cells #[.int .i64 tm2, .int .i64 vt2, .slice a2 n2 c2] 76))
  have P2 := hide ((unhide P1).alloc (.cells #[.int .i64 tm2, .int .i64 vt2, .slice a2 n2 c2] 76))
  have O2 := hide ((unhide O1).alloc (.cells #[.int .i64 tm2, .int .i64 vt2, .slice a2 n2 c2] 76))
  have N2 := hide (ho2.alloc (.cells #[.int .i64 tm2, .int .i64 vt2, .slice a2 n2 c2] 76))
  have X2 := hide (BF.new w1 #[.int .i64 tm2, .int .i64 vt2, .slice a2 n2 c2] 76)
  have W2 := hide (hr2.below ((Below.refl _ _).alloc (Nat.le_refl _) (.cells #[.int .i64 tm2, .int .i64 vt2, .slice a2 n2 c2] 76)))
  obtain ⟨R, hRR⟩ : ∃ R, R = stateB tm2 vt2 l2 := ⟨_, rfl⟩
  have HR2 := hide hRR
  have HV2 := hide hv2
  have HR := hide hR
  clear ho2 hr2 hz P1 O1 B1 hRR hR hN2 hv2
  go_wp2_with fail
  refine (istateok tm2 vt2 a2 c2 n2 l2 HL2 hn2 HS2 R HR2 _ (unhide W2)).mono ?_
  rintro e w3 ⟨rfl, hb3⟩
  have B3 := hide ((unhide B2).trans (hb3.mono (by have := (unhide P2).lt; omega)))
  have P3 := hide ((unhide P2).below hb3)
  have X3 := hide ((unhide X2).below hb3)
  have O3 := hide ((heldZ_of (unhide O2)).below hb3 (Nat.le_refl _)).own
  have N3 := hide ((heldZ_of (unhide N2)).below hb3 (Nat.le_refl _)).own
  have S3 := unhide hSk _ (unhide B3)
  have g1 := S3.g1
  have g2 := S3.g2
  clear hb3 B2 P2 X2 O2 N2 W2 S1 S3
  cases R with
  | false =>
   have EF := hide (apF_bad (unhide HR) (fun h => by rw [← unhide HR2] at h; exact absurd h.1 (by simp)))
   go_wp2_with fail
   go_ret
   refine ⟨?_, unhide B3⟩
   rw [unhide EF]
   exact ⟨⟨x1, .inr (.inl rfl), rfl⟩, unhide P3, unhide O3⟩
  | true =>
   have kx := (unhide X3).S
   have kp := (unhide P3).S
   have kpf := (unhide P3).F
   by_cases hlt : tm2 < tm
   ·have dl : decide (tm2 < tm) = true := decide_eq_true hlt
    have EF := hide (apF_bad (unhide HR) (fun h => by omega))
    clear hlt
    go_wp2_with fail
    go_quiet (fail)
    go_wp2_with fail
    go_ret
    refine ⟨?_, bdN (unhide B3) _⟩
    rw [unhide EF]
    exact ⟨⟨x2, .inr (.inr rfl), rfl⟩, (unhide P3).below (bdN (Below.refl _ _) _), ((heldZ_of (unhide O3)).below (bdN (Below.refl _ _) _) (Nat.le_refl _)).own⟩
   ·have dl : decide (tm2 < tm) = false := decide_eq_false hlt
    have EF := hide (apF_ok (unhide HR) ⟨(unhide HR2).symm, by omega⟩)
    clear hlt
    go_wp2_with fail
    go_quiet (fail)
    go_wp2_with fail
    have D3 := bdN (Below.refl w3.heap.size w3) nq
    obtain ⟨wz, hvz, hFZ, hbz⟩ := put3 (w3.drewN nq) ((unhide P3).below D3) (.int .i64 tm2) (.int .i64 vt2) (.slice a2 n2 c2)
    rw [← hvz]
    go_ret
    refine ⟨?_, (bdN (unhide B3) _).trans (hbz.mono hbase)⟩
    rw [unhide EF]
    have hnp : (Value.slice a2 n2 c2).ownBlock ≠ some p := by
     rcases unhide HV2 with h | h
     ·rw [h]; exact hne
     ·exact own_ne (unhide N3) h (unhide P3)
    have N4 := ((heldZ_of (unhide N3)).below D3 (Nat.le_refl _)).own
    have hfz : ∀ k, k ≠ p → wz.heap[k]? = (w3.drewN nq).heap[k]? := fun k hk => by rw [hvz]; iterate 3 rw [Below.heap_setCell _ _ _ _ hk]
    refine ⟨rfl, _, hFZ, ?_⟩
    rw [unhide HL2]
    exact own_far N4 hfz hnp
end Go.Proofs.YtfogppnijdjakaaGreatDoor
