/- Texts put together: SteI TakS. -/
import Derived.Test.YtamjljhbnhdgdaaDoorZG3
import Derived.Test.YtamjljhbnhdgdaaDoorZG10
import Derived.Test.YtamjljhbnhdgdaaDoorZG7
import Derived.Lib.SmallJoins
import Derived.Test.YtamjljhbnhdgdaaDoorZG12
import Derived.BigQuiet
/- Which states are right: what the program answers. -/
namespace Go.Proofs.YtamjljhbnhdgdaaDoor
open Go.ChangeShapes Go.WideShapes Go.ChangeAt Go.RowKit
set_option linter.unusedVariables false
set_option maxHeartbeats 2000000 in
set_option maxRecDepth 100000 in
theorem ilogok (tm vt : Int) (a : Option Addr) (cap n : Nat) (l : List Ent) (HN : Hid (l.length = n)) (hn : n ≤ 60) (HSZ : Hid (∀ k (h : k < l.length), l[k].2.size ≤ 1048576)) (R : Bool) (HR : Hid (R = logB tm 1 l)) (w : World) (hr : RowV w a (cE l)) :
  Calls Tryd.prog 42 #[.agg #[.int .i64 tm, .int .i64 vt, .slice a n cap]] w fun e w' => e = .returned (.bool R) ∧ Below w.heap.size w w' := by
 have B0 := hide (Go.Joins.below_alloc1 w (.cells #[.int .i64 tm, .int .i64 vt, .slice a n cap] 25))
 have A0 := hide (BF.new w #[.int .i64 tm, .int .i64 vt, .slice a n cap] 25)
 have HRW := hide hr
 have HCL := hide (cE_len l)
 clear hr
 go_enter Tryd.func42, Tryd.ntmps42
 go_wp2_with fail
 go_loopw [3, 9] (fun p i wr => ∃ (k : Nat) (q : Int), k ≤ n ∧ i = .int .i64 k ∧ p = .int .i64 q ∧ Hid (R = logB tm q (l.drop k)) ∧ Hid (BF w.heap.size #[.int .i64 tm, .int .i64 vt, .slice a n cap] wr) ∧ Hid (Below w.heap.size w wr)) (fun _ i _ => n - (intOf i).toNat)
 case atStart => exact ⟨0, 1, by omega, rfl, rfl, HR, A0, B0⟩
 case round =>
  clear A0 B0 HR
  obtain ⟨k, q, hk, rfl, rfl, HQ, A1, B1⟩ := hrel
  by_cases hlt : k < n
  ·obtain ⟨b, off, ha, hblt, hc⟩ := (unhide HRW).at (by rw [unhide HCL, unhide HN]; omega)
   subst ha
   have hlk : k < l.length := by rw [unhide HN]; exact hlt
   obtain ⟨x0, x1⟩ := row_ent hc k hlk
   obtain ⟨t, et⟩ : ∃ t, t = l[k].1 := ⟨_, rfl⟩
   obtain ⟨d, ed⟩ : ∃ d, d = l[k].2 := ⟨_, rfl⟩
   have hs : d.size ≤ 1048576 := by rw [ed]; exact unhide HSZ k hlk
   have hq := (unhide HQ).trans (logB_step tm q l k hlk)
   unfold entB at hq
   rw [← et, ← ed] at hq
   rw [← et] at x0
   rw [← ed] at x1
   have hx0 : wr.cell? ⟨b, off + k * 2, none⟩ = some (.int .i64 t) := ((unhide B1).cell (p := ⟨b, off + k * 2, none⟩) hblt).trans x0
   have hx1 : wr.cell? ⟨b, off + k * 2 + 1, none⟩ = some (.string d) := ((unhide B1).cell (p := ⟨b, off + k * 2 + 1, none⟩) hblt).trans x1
   have hlt' : (k : Int) < (n : Int) := by omega
   have hlt0 : (0 : Int) ≤ (k : Int) := by omega
   obtain ⟨sz, hsz⟩ : ∃ sz : Nat, sz = d.size := ⟨_, rfl⟩
   rw [← hsz] at hs hq
   have la : (d.size : Int) = (sz : Int) := by rw [hsz]
   have HQ2 := hide hq
   obtain ⟨R1, hR1⟩ : ∃ R1, R1 = inB t q tm := ⟨_, rfl⟩
   have HR1 := hide hR1
   have B2 := hide ((unhide B1).alloc (unhide B1).size (.cells #[.int .i64 t, .string d] 62))
   have A2 := hide ((unhide A1).alloc (.cells #[.int .i64 t, .string d] 62))
   have a2 := (unhide A2).S
   clear hc x0 x1 et ed hsz hq hR1 HQ A1 B1 HRW HCL HSZ
   go_wp2_with fail
   refine (iwi t q tm R1 HR1 _).mono ?_
   rintro e w2 ⟨rfl, rfl⟩
   cases R1 with
   | false =>
    have hR : R = false := by have := unhide HQ2; rw [← unhide HR1] at this; simpa using this
    subst hR
    go_wp2_with fail
    go_ret
    exact ⟨rfl, unhide B2⟩
   | true =>
    by_cases h4 : sz ≤ 400
    ·have HQ3 : Hid (R = logB tm t (l.drop (k + 1))) := by show _ = _; have := unhide HQ2; rw [← unhide HR1, decide_eq_true h4] at this; simpa using this
     clear HQ2 HR1
     go_wp2_with fail
     go_roundw
     case rel => exact ⟨k + 1, t, by omega, by go_num, rfl, HQ3, A2, B2⟩
     case measure => simp [intOf]; omega
    ·have hR : R = false := by have := unhide HQ2; rw [← unhide HR1, decide_eq_false h4] at this; simpa using this
     subst hR
     go_wp2_with fail
     go_ret
     exact ⟨rfl, unhide B2⟩
  ·have hR : R = true := (unhide HQ).trans (logB_end _ _ _ _ (by rw [unhide HN]; omega))
   subst hR
   go_wp2_with fail
   go_ret
   exact ⟨rfl, unhide B1⟩
set_option maxHeartbeats 2000000 in
set_option maxRecDepth 100000 in
theorem istateok (tm vt : Int) (a : Option Addr) (cap n : Nat) (l : List Ent) (HN : Hid (l.length = n)) (hn : n ≤ 1048576) (HSZ : Hid (∀ k (h : k < l.length), l[k].2.size ≤ 1048576)) (R : Bool) (HR : Hid (R = stateB tm vt l)) (w : World) (hr : RowV w a (cE l)) :
  Calls Tryd.prog 25 #[.agg #[.int .i64 tm, .int .i64 vt, .slice a n cap]] w fun e w' => e = .returned (.bool R) ∧ Below w.heap.size w w' := by
 have B0 := hide (Go.Joins.below_alloc1 w (.cells #[.int .i64 tm, .int .i64 vt, .slice a n cap] 25))
 have HRW := hide (hr.below (unhide B0))
 obtain ⟨R1, hR1⟩ : ∃ R1, R1 = inB tm 0 1000 := ⟨_, rfl⟩
 have HR1 := hide hR1
 obtain ⟨R2, hR2⟩ : ∃ R2, R2 = inB vt (-1) 4 := ⟨_, rfl⟩
 have HR2 := hide hR2
 clear hr hR1 hR2
 go_enter Tryd.func25, Tryd.ntmps25
 go_wp2_with fail
 refine (iwi tm 0 1000 R1 HR1 _).mono ?_
 rintro e w1 ⟨rfl, rfl⟩
 cases R1 with
 | false =>
  have hR : R = false := (unhide HR).trans (st1 (unhide HR1).symm)
  subst hR
  go_wp2_with fail
  go_ret
  exact ⟨rfl, unhide B0⟩
 | true =>
  go_wp2_with fail
  refine (iwi vt (-1) 4 R2 HR2 _).mono ?_
  rintro e w1 ⟨rfl, rfl⟩
  cases R2 with
  | false =>
   have hR : R = false := (unhide HR).trans (st2 (unhide HR2).symm)
   subst hR
   go_wp2_with fail
   go_ret
   exact ⟨rfl, unhide B0⟩
  | true =>
   by_cases h6 : n ≤ 60
   ·have HR4 : Hid (R = logB tm 1 l) := by show _ = _; exact (unhide HR).trans (st4 (unhide HR1).symm (unhide HR2).symm (by rw [unhide HN]; exact h6))
    clear HR HR1 HR2
    go_wp2_with fail
    refine (ilogok tm vt a cap n l HN h6 HSZ R HR4 _ (unhide HRW)).mono ?_
    rintro e w2 ⟨rfl, hb2⟩
    have B2 := hide ((unhide B0).trans (hb2.mono (unhide B0).size))
    clear hb2 B0 HRW
    go_wp2_with fail
    go_ret
    exact ⟨rfl, unhide B2⟩
   ·have hR : R = false := (unhide HR).trans (st3 (by rw [unhide HN]; exact h6))
    subst hR
    go_wp2_with fail
    go_ret
    exact ⟨rfl, unhide B0⟩
end Go.Proofs.YtamjljhbnhdgdaaDoor

/- (*State).take: what the program makes of any record, in place. -/
namespace Go.Proofs.YtamjljhbnhdgdaaDoor
open Go.ChangeShapes Go.WideShapes Go.ChangeAt Go.RowKit
set_option linter.unusedVariables false
/-- What take answers, and what it leaves: apF's. -/
def TakTo (o : Option (Int × Int × List Ent)) (x0 x1 x2 : Addr) (p : Nat) (tm vt : Int) (v : Value) (n : Nat) (l : List Ent) (base : Nat) (w' : World) (e : Ending) : Prop :=
 match o with
 | none => (∃ x, (x = x0 ∨ x = x1 ∨ x = x2) ∧ e = .returned (.iface 145 (.pointer (some x)))) ∧ BF p #[.int .i64 tm, .int .i64 vt, v] w' ∧ w'.ownsRow base 62 2 v n (cE l)
 | some (tm2, vt2, l2) => e = .returned .nilIface ∧ ∃ v2, BF p #[.int .i64 tm2, .int .i64 vt2, v2] w' ∧ w'.ownsRow base 62 2 v2 l2.length (cE l2)
theorem apF_none {tm vt : Int} {l : List Ent} {t : ByteArray} (h : apR tm vt l t = none) : apF tm vt l t = none := by unfold apF; rw [h]
theorem apF_bad {tm vt tm2 vt2 : Int} {l l2 : List Ent} {t : ByteArray} (h : apR tm vt l t = some (tm2, vt2, l2)) (hb : ¬ (stateB tm2 vt2 l2 = true ∧ tm ≤ tm2)) : apF tm vt l t = none := by unfold apF; rw [h]; simp only; rw [if_neg hb]
theorem apF_ok {tm vt tm2 vt2 : Int} {l l2 : List Ent} {t : ByteArray} (h : apR tm vt l t = some (tm2, vt2, l2)) (hb : stateB tm2 vt2 l2 = true ∧ tm ≤ tm2) : apF tm vt l t = some (tm2, vt2, l2) := by unfold apF; rw [h]; simp only; rw [if_pos hb]
set_option maxHeartbeats 4000000 in
set_option maxRecDepth 100000 in
theorem istake (p : Nat) (tm vt : Int) (a : Option Addr) (cap n : Nat) (l : List (Int × ByteArray)) (HN : Hid (l.length = n)) (hn : n ≤ 1048576) (base : Nat) (t : ByteArray) (ht : t.size ≤ 65536) (HF : Hid (∀ m, rfOf t.data.toList = some m → ∀ k (hk : k < m.length), m[k].size ≤ 20000)) (HK : Hid (∀ f L r, recP t = some (f, L, r) → L.length ≤ 65536 ∧ r.length ≤ 65536)) (HZ : Hid (∀ tm2 vt2 l2, apR tm vt l t = some (tm2, vt2, l2) → l2.length ≤ 1048576 ∧ ∀ k (h : k < l2.length), l2[k].2.size ≤ 1048576)) {x0 x1 x2 x3 x4 : Addr} (w : World) (hE : ErrsIn w) (hS : StE w x0 x1 x2 x3 x4) (hSk : Hid (∀ w', Below base w w' → StE w' x0 x1 x2 x3 x4)) (hbase : base ≤ p) (hp : BF p #[.int .i64 tm, .int .i64 vt, .slice a n cap] w) (hne : (Value.slice a n cap).ownBlock ≠ some p) (hown : w.ownsRow base 62 2 (.slice a n cap) n (cE l)) :
  Calls Tryd.prog 23 #[.pointer (some ⟨p, 0, none⟩), .string t] w fun e w' => TakTo (apF tm vt l t) x0 x1 x2 p tm vt (.slice a n cap) n l base w' e ∧ Below base w w' := by
 have hpl := hp.lt
 have T := iafter tm vt a cap n l HN hn base t ht HF HK w hE hS (by omega) hown
 have c0 := hp.S
 clear hown hE hS
 go_enter Tryd.func23, Tryd.ntmps23
 go_wp2_with fail
 refine T.mono ?_
 clear T
 rintro e w1 ⟨hto, ho1, hb1, hg1⟩
 have P1 := hide (hp.grown hg1 hne)
 have B1 := hide hb1
 have O1 := hide ho1
 have S1 := hide (unhide hSk _ hb1)
 clear hp c0 hb1 ho1 hg1
 cases hR : apR tm vt l t with
 | none =>
  rw [hR] at hto
  have he : e = .returned (.tuple #[.agg #[.int .i64 0, .int .i64 0, .slice none 0 0], .iface 145 (.pointer (some x0))]) := hto
  subst he
  have EF := hide (apF_none hR)
  have B2 := hide ((unhide B1).alloc (by have := (unhide B1).size; omega) (.cells #[.int .i64 0, .int .i64 0, .slice none 0 0] 25))
  have P2 := hide ((unhide P1).alloc (.cells #[.int .i64 0, .int .i64 0, .slice none 0 0] 25))
  have O2 := hide ((unhide O1).alloc (.cells #[.int .i64 0, .int .i64 0, .slice none 0 0] 25))
  clear hto hR
  go_wp2_with fail
  go_ret
  refine ⟨?_, unhide B2⟩
  rw [unhide EF]
  exact ⟨⟨x0, .inl rfl, rfl⟩, unhide P2, unhide O2⟩
 | some q =>
  obtain ⟨tm2, vt2, l2⟩ := q
  rw [hR] at hto
  obtain ⟨v2, rfl, ho2, hv2⟩ := hto
  have hz := unhide HZ tm2 vt2 l2 hR
  obtain ⟨n2, hN2⟩ : ∃ n2, l2.length = n2 := ⟨_, rfl⟩
  rw [hN2] at ho2 hv2
  obtain ⟨a2, c2, rfl, hr2⟩ := ownZ_rowV ho2
  have HL2 := hide hN2
  have HS2 := hide hz.2
  have hn2 : n2 ≤ 1048576 := by rw [← hN2]; exact hz.1
  have B2 := hide ((unhide B1).alloc (by have := (unhide B1).size; omega) (.cells #[.int .i64 tm2, .int .i64 vt2, .slice a2 n2 c2] 25))
  have P2 := hide ((unhide P1).alloc (.cells #[.int .i64 tm2, .int .i64 vt2, .slice a2 n2 c2] 25))
  have O2 := hide ((unhide O1).alloc (.cells #[.int .i64 tm2, .int .i64 vt2, .slice a2 n2 c2] 25))
  have N2 := hide (ho2.alloc (.cells #[.int .i64 tm2, .int .i64 vt2, .slice a2 n2 c2] 25))
  have X2 := hide (BF.new w1 #[.int .i64 tm2, .int .i64 vt2, .slice a2 n2 c2] 25)
  have W2 := hide (hr2.below ((Below.refl _ _).alloc (Nat.le_refl _) (.cells #[.int .i64 tm2, .int .i64 vt2, .slice a2 n2 c2] 25)))
  obtain ⟨R, hRR⟩ : ∃ R, R = stateB tm2 vt2 l2 := ⟨_, rfl⟩
  have HR2 := hide hRR
  have HV2 := hide hv2
  have HR := hide hR
  clear ho2 hr2 hz P1 O1 B1 hRR hR hN2 hv2
  go_wp2_with fail
  refine (istateok tm2 vt2 a2 c2 n2 l2 HL2 hn2 HS2 R HR2 _ (unhide W2)).mono ?_
  rintro e w3 ⟨rfl, hb3⟩
  have B3 := hide ((unhide B2).trans (hb3.mono (by have := (unhide P2).lt; omega)))
  have P3 := hide ((unhide P2).below hb3)
  have X3 := hide ((unhide X2).below hb3)
  have O3 := hide ((heldZ_of (unhide O2)).below hb3 (Nat.le_refl _)).own
  have N3 := hide ((heldZ_of (unhide N2)).below hb3 (Nat.le_refl _)).own
  have S3 := unhide hSk _ (unhide B3)
  have g1 := S3.g1
  have g2 := S3.g2
  clear hb3 B2 P2 X2 O2 N2 W2 S1 S3
  cases R with
  | false =>
   have EF := hide (apF_bad (unhide HR) (fun h => by rw [← unhide HR2] at h; exact absurd h.1 (by simp)))
   go_wp2_with fail
   go_ret
   refine ⟨?_, unhide B3⟩
   rw [unhide EF]
   exact ⟨⟨x1, .inr (.inl rfl), rfl⟩, unhide P3, unhide O3⟩
  | true =>
   have kx := (unhide X3).S
   have kp := (unhide P3).S
   have kpf := (unhide P3).F
   by_cases hlt : tm2 < tm
   ·have dl : decide (tm2 < tm) = true := decide_eq_true hlt
    have EF := hide (apF_bad (unhide HR) (fun h => by omega))
    clear hlt
    go_wp2_with fail
    go_quiet (fail)
    go_wp2_with fail
    go_ret
    refine ⟨?_, bdN (unhide B3) _⟩
    rw [unhide EF]
    exact ⟨⟨x2, .inr (.inr rfl), rfl⟩, (unhide P3).below (bdN (Below.refl _ _) _), ((heldZ_of (unhide O3)).below (bdN (Below.refl _ _) _) (Nat.le_refl _)).own⟩
   ·have dl : decide (tm2 < tm) = false := decide_eq_false hlt
    have EF := hide (apF_ok (unhide HR) ⟨(unhide HR2).symm, by omega⟩)
    clear hlt
    go_wp2_with fail
    go_quiet (fail)
    go_wp2_with fail
    have D3 := bdN (Below.refl w3.heap.size w3) nq
    obtain ⟨wz, hvz, hFZ, hbz⟩ := put3 (w3.drewN nq) ((unhide P3).below D3) (.int .i64 tm2) (.int .i64 vt2) (.slice a2 n2 c2)
    rw [← hvz]
    go_ret
    refine ⟨?_, (bdN (unhide B3) _).trans (hbz.mono hbase)⟩
    rw [unhide EF]
    have hnp : (Value.slice a2 n2 c2).ownBlock ≠ some p := by
     rcases unhide HV2 with h | h
     ·rw [h]; exact hne
     ·exact own_ne (unhide N3) h (unhide P3)
    have N4 := ((heldZ_of (unhide N3)).below D3 (Nat.le_refl _)).own
    have hfz : ∀ k, k ≠ p → wz.heap[k]? = (w3.drewN nq).heap[k]? := fun k hk => by rw [hvz]; iterate 3 rw [Below.heap_setCell _ _ _ _ hk]
    refine ⟨rfl, _, hFZ, ?_⟩
    rw [unhide HL2]
    exact own_far N4 hfz hnp
end Go.Proofs.YtamjljhbnhdgdaaDoor
