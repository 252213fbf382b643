/- Texts put together: SamM EqlI SamI LatI StT. -/
import Derived.Test.YtamjljhbnhdgdaaDoorZG16
import Derived.Test.YtamjljhbnhdgdaaDoorZG23
import Derived.Test.YtamjljhbnhdgdaaDoorZG13
import Derived.Test.YtamjljhbnhdgdaaDoorZG17
import Derived.Test.YtamjljhbnhdgdaaDoorZG1
import Derived.Test.YtamjljhbnhdgdaaDoorZG7
import Derived.Stop.LaidTwo
import Derived.LaidHandle
import Derived.OpenVars
import Derived.LaidMore
/- States held against each other. Plain mathematics. -/
namespace Go.Proofs.YtamjljhbnhdgdaaDoor
open Go.ChangeShapes Go.WideShapes Go.ChangeAt Go.RowKit
set_option linter.unusedVariables false
def SameIs (tm vt : Int) (l : List Ent) (tm2 vt2 : Int) (m : List Ent) (R : Bool) (c : Int) : Prop :=
 (stateB tm vt l = true ∧ stateB tm2 vt2 m = true ∧ R = decide (tm = tm2 ∧ vt = vt2 ∧ l = m) ∧ c = 0) ∨ ((stateB tm vt l = false ∨ (stateB tm vt l = true ∧ stateB tm2 vt2 m = false)) ∧ R = false ∧ c = 1)
theorem sm1 {tm tm2 vt vt2 : Int} {l m : List Ent} (h : ¬ tm = tm2) : decide (tm = tm2 ∧ vt = vt2 ∧ l = m) = false := decide_eq_false fun x => h x.1
theorem sm2 {tm tm2 vt vt2 : Int} {l m : List Ent} (h : ¬ vt = vt2) : decide (tm = tm2 ∧ vt = vt2 ∧ l = m) = false := decide_eq_false fun x => h x.2.1
theorem sm4 {tm vt : Int} {l m : List Ent} : decide (tm = tm ∧ vt = vt ∧ l = m) = decide (l = m) := by simp
end Go.Proofs.YtamjljhbnhdgdaaDoor

/- slices.Equal of two logs. -/
namespace Go.Proofs.YtamjljhbnhdgdaaDoor
open Go.ChangeShapes Go.WideShapes Go.ChangeAt Go.RowKit
set_option linter.unusedVariables false
attribute [local go_sem ↓] run_neEnt
theorem eq_stop {l m : List Ent} {k : Nat} {h1 : k < l.length} {h2 : k < m.length} (h : l[k] ≠ m[k]) : decide (l = m) = false := decide_eq_false fun e => h (by subst e; rfl)
theorem eq_all {l m : List Ent} (hl : l.length = m.length) (h : ∀ q (h : q < l.length) (h2 : q < m.length), l[q] = m[q]) : decide (l = m) = true := decide_eq_true (List.ext_getElem hl h)
set_option maxHeartbeats 2000000 in
set_option maxRecDepth 100000 in
theorem iequal (a c : Option Addr) (cap cap2 n n2 : Nat) (l m : List Ent) (HN : Hid (l.length = n)) (HN2 : Hid (m.length = n2)) (hn : n ≤ 60) (hn2 : n2 ≤ 60) (R : Bool) (HR0 : Hid (R = decide (l = m))) (w : World) (hr : RowV w a (cE l)) (hr2 : RowV w c (cE m)) :
  Calls Tryd.prog 26 #[.slice a n cap, .slice c n2 cap2] w fun e w' => e = .returned (.bool R) ∧ Below w.heap.size w w' := by
 have HR := hide hr
 have HR2 := hide hr2
 have HCL := hide (cE_len l)
 have HCM := hide (cE_len m)
 clear hr hr2
 by_cases hnn : n = n2
 ·subst hnn
  have hne : ((n : Int) != (n : Int)) = false := by simp
  go_enter Tryd.func26, Tryd.ntmps26
  go_wp2_with fail
  go_loopw [13] (fun i wr => ∃ k : Nat, k ≤ n ∧ i = .int .i64 k ∧ Hid (∀ q (h : q < l.length) (h2 : q < m.length), q < k → l[q] = m[q]) ∧ Hid (Below w.heap.size w wr)) (fun i _ => n - (intOf i).toNat)
  case atStart => exact ⟨0, by omega, rfl, fun q _ _ h => absurd h (Nat.not_lt_zero _), Below.refl _ _⟩
  case round =>
   obtain ⟨k, hk, rfl, HF, HB⟩ := hrel
   by_cases hlt : k < n
   ·obtain ⟨b, off, ha, hblt, hc⟩ := (unhide HR).at (by rw [unhide HCL, unhide HN]; omega)
    obtain ⟨b2, off2, ha2, hblt2, hc2⟩ := (unhide HR2).at (by rw [unhide HCM, unhide HN2]; omega)
    subst ha ha2
    have hlk : k < l.length := by rw [unhide HN]; exact hlt
    have hmk : k < m.length := by rw [unhide HN2]; exact hlt
    obtain ⟨x0, x1⟩ := row_ent hc k hlk
    obtain ⟨y0, y1⟩ := row_ent hc2 k hmk
    obtain ⟨t, et⟩ : ∃ t, t = l[k].1 := ⟨_, rfl⟩
    obtain ⟨d, ed⟩ : ∃ d, d = l[k].2 := ⟨_, rfl⟩
    obtain ⟨u, eu⟩ : ∃ u, u = m[k].1 := ⟨_, rfl⟩
    obtain ⟨e, ee⟩ : ∃ e, e = m[k].2 := ⟨_, rfl⟩
    rw [← et] at x0
    rw [← ed] at x1
    rw [← eu] at y0
    rw [← ee] at y1
    have hx0 : wr.cell? ⟨b, off + k * 2, none⟩ = some (.int .i64 t) := ((unhide HB).cell (p := ⟨b, off + k * 2, none⟩) hblt).trans x0
    have hx1 : wr.cell? ⟨b, off + k * 2 + 1, none⟩ = some (.string d) := ((unhide HB).cell (p := ⟨b, off + k * 2 + 1, none⟩) hblt).trans x1
    have hy0 : wr.cell? ⟨b2, off2 + k * 2, none⟩ = some (.int .i64 u) := ((unhide HB).cell (p := ⟨b2, off2 + k * 2, none⟩) hblt2).trans y0
    have hy1 : wr.cell? ⟨b2, off2 + k * 2 + 1, none⟩ = some (.string e) := ((unhide HB).cell (p := ⟨b2, off2 + k * 2 + 1, none⟩) hblt2).trans y1
    have i1 : (k : Int) < (n : Int) := by omega
    have i0 : (0 : Int) ≤ (k : Int) := by omega
    have hcmp := ent_cmp et ed eu ee (h1 := hlk) (h2 := hmk)
    cases heq : entEq t u d e with
    | true =>
     have HF2 : Hid (∀ q (h : q < l.length) (h2 : q < m.length), q < k + 1 → l[q] = m[q]) := fun q h h2 hq => by
      by_cases e : q = k
      ·subst e; exact hcmp.1 heq
      ·exact unhide HF q h h2 (by omega)
     clear hc hc2 x0 x1 y0 y1 et ed eu ee HF HR HR2 hcmp
     go_wp2_with fail
     go_quiet (fail)
     go_wp2_with fail
     go_roundw
     case rel => exact ⟨k + 1, by omega, by go_num, HF2, bdN (unhide HB) _⟩
     case measure => simp [intOf]; omega
    | false =>
     obtain rfl : R = false := (unhide HR0).trans (eq_stop (hcmp.2 heq))
     clear hc hc2 x0 x1 y0 y1 et ed eu ee HF HR HR2 hcmp HR0
     go_wp2_with fail
     go_quiet (fail)
     go_wp2_with fail
     go_ret
     exact ⟨rfl, bdN (unhide HB) _⟩
   ·obtain rfl : R = true := (unhide HR0).trans (eq_all (by rw [unhide HN, unhide HN2]) fun q h h2 => unhide HF q h h2 (by have := unhide HN; omega))
    go_wp2_with fail
    go_ret
    exact ⟨rfl, unhide HB⟩
 ·obtain rfl : R = false := (unhide HR0).trans (decide_eq_false fun e => hnn (by rw [← unhide HN, ← unhide HN2, e]))
  have hne : ((n : Int) != (n2 : Int)) = true := by simp; omega
  go_enter Tryd.func26, Tryd.ntmps26
  go_wp2_with fail
  go_ret
  exact ⟨rfl, Below.refl _ _⟩
end Go.Proofs.YtamjljhbnhdgdaaDoor

/- States held against each other: what the program answers. -/
namespace Go.Proofs.YtamjljhbnhdgdaaDoor
open Go.ChangeShapes Go.WideShapes Go.ChangeAt Go.RowKit
set_option linter.unusedVariables false
set_option maxHeartbeats 4000000 in
set_option maxRecDepth 100000 in
theorem isame (tm vt : Int) (a : Option Addr) (cap n : Nat) (l : List Ent) (HN : Hid (l.length = n)) (hn : n ≤ 1048576) (HSZ : Hid (∀ k (h : k < l.length), l[k].2.size ≤ 1048576)) (tm2 vt2 : Int) (a2 : Option Addr) (cap2 n2 : Nat) (m : List Ent) (HN2 : Hid (m.length = n2)) (hn2 : n2 ≤ 1048576) (HSZ2 : Hid (∀ k (h : k < m.length), m[k].2.size ≤ 1048576)) (R : Bool) (c : Int) (HIS : Hid (SameIs tm vt l tm2 vt2 m R c)) (w : World) (hr : RowV w a (cE l)) (hr2 : RowV w a2 (cE m)) :
  Calls Tryd.prog 12 #[.agg #[.int .i64 tm, .int .i64 vt, .slice a n cap], .agg #[.int .i64 tm2, .int .i64 vt2, .slice a2 n2 cap2]] w fun e w' => e = .returned (.tuple #[.bool R, .int .i64 c]) ∧ Below w.heap.size w w' := by
 have B0 := hide (Go.Joins.below_alloc2 w (.cells #[.int .i64 tm, .int .i64 vt, .slice a n cap] 25) (.cells #[.int .i64 tm2, .int .i64 vt2, .slice a2 n2 cap2] 25))
 have A0 := hide ((BF.new w #[.int .i64 tm, .int .i64 vt, .slice a n cap] 25).alloc (.cells #[.int .i64 tm2, .int .i64 vt2, .slice a2 n2 cap2] 25))
 have C0 := hide (BF.new (w.alloc (.cells #[.int .i64 tm, .int .i64 vt, .slice a n cap] 25)) #[.int .i64 tm2, .int .i64 vt2, .slice a2 n2 cap2] 25)
 rw [show (w.alloc (.cells #[.int .i64 tm, .int .i64 vt, .slice a n cap] 25)).heap.size = w.heap.size + 1 from by simp] at C0
 have HRW1 := hide (hr.below (unhide B0))
 have HRW2 := hide (hr2.below (unhide B0))
 clear hr hr2
 rcases unhide HIS with ⟨k1, k2, hR, rfl⟩ | ⟨k1 | ⟨k1, k2⟩, rfl, rfl⟩
 ·have HK1 := hide k1.symm
  have HK2 := hide k2.symm
  have HP1 := hide (state_parts k1).2.2.1
  have HP2 := hide (state_parts k2).2.2.1
  have HR := hide hR
  clear HIS k1 k2 hR
  go_enter Tryd.func12, Tryd.ntmps12
  go_wp2_with fail
  refine (istateok tm vt a cap n l HN hn HSZ true HK1 _ (unhide HRW1)).mono ?_
  rintro e w1 ⟨rfl, hb⟩
  have B1 := hide ((unhide B0).trans (hb.mono (unhide B0).size))
  have A1 := hide ((unhide A0).below hb)
  have C1 := hide ((unhide C0).below hb)
  replace HRW1 := hide ((unhide HRW1).below hb)
  replace HRW2 := hide ((unhide HRW2).below hb)
  clear hb B0 A0 C0
  have ka1 := (unhide A1).S
  have kc1 := (unhide C1).S
  go_wp2_with fail
  refine (istateok tm2 vt2 a2 cap2 n2 m HN2 hn2 HSZ2 true HK2 _ (unhide HRW2)).mono ?_
  rintro e w2 ⟨rfl, hb⟩
  have B2 := hide ((unhide B1).trans (hb.mono (unhide B1).size))
  have A2 := hide ((unhide A1).below hb)
  have C2 := hide ((unhide C1).below hb)
  replace HRW1 := hide ((unhide HRW1).below hb)
  replace HRW2 := hide ((unhide HRW2).below hb)
  clear hb B1 A1 C1
  have ka2 := (unhide A2).S
  have kc2 := (unhide C2).S
  have hp1 : n ≤ 60 := by have := unhide HP1; rw [unhide HN] at this; exact this
  have hp2 : n2 ≤ 60 := by have := unhide HP2; rw [unhide HN2] at this; exact this
  clear HP1 HP2
  by_cases h1 : tm = tm2
  ·by_cases h2 : vt = vt2
   ·subst h1 h2
    have HR1 := hide ((unhide HR).trans sm4)
    go_wp2_with fail
    refine (iequal a a2 cap cap2 n n2 l m HN HN2 hp1 hp2 R HR1 _ (unhide HRW1) (unhide HRW2)).mono ?_
    rintro e w3 ⟨rfl, hb⟩
    have B3 := hide ((unhide B2).trans (hb.mono (unhide B2).size))
    clear hb B2 A2 C2
    go_wp2_with fail
    go_ret2
    exact ⟨rfl, unhide B3⟩
   ·subst h1
    obtain rfl : R = false := (unhide HR).trans (sm2 h2)
    have hb2 : (vt == vt2) = false := by simpa using h2
    go_wp2_with fail
    go_ret2
    exact ⟨rfl, unhide B2⟩
  ·obtain rfl : R = false := (unhide HR).trans (sm1 h1)
   have hb1 : (tm == tm2) = false := by simpa using h1
   go_wp2_with fail
   go_ret2
   exact ⟨rfl, unhide B2⟩
 ·have HK1 := hide k1.symm
  clear HIS k1
  go_enter Tryd.func12, Tryd.ntmps12
  go_wp2_with fail
  refine (istateok tm vt a cap n l HN hn HSZ false HK1 _ (unhide HRW1)).mono ?_
  rintro e w1 ⟨rfl, hb⟩
  have B1 := hide ((unhide B0).trans (hb.mono (unhide B0).size))
  have A1 := hide ((unhide A0).below hb)
  have C1 := hide ((unhide C0).below hb)
  replace HRW1 := hide ((unhide HRW1).below hb)
  replace HRW2 := hide ((unhide HRW2).below hb)
  clear hb B0 A0 C0
  have ka1 := (unhide A1).S
  have kc1 := (unhide C1).S
  go_wp2_with fail
  go_ret2
  exact ⟨rfl, unhide B1⟩
 ·have HK1 := hide k1.symm
  have HK2 := hide k2.symm
  clear HIS k1 k2
  go_enter Tryd.func12, Tryd.ntmps12
  go_wp2_with fail
  refine (istateok tm vt a cap n l HN hn HSZ true HK1 _ (unhide HRW1)).mono ?_
  rintro e w1 ⟨rfl, hb⟩
  have B1 := hide ((unhide B0).trans (hb.mono (unhide B0).size))
  have A1 := hide ((unhide A0).below hb)
  have C1 := hide ((unhide C0).below hb)
  replace HRW1 := hide ((unhide HRW1).below hb)
  replace HRW2 := hide ((unhide HRW2).below hb)
  clear hb B0 A0 C0
  have ka1 := (unhide A1).S
  have kc1 := (unhide C1).S
  go_wp2_with fail
  refine (istateok tm2 vt2 a2 cap2 n2 m HN2 hn2 HSZ2 false HK2 _ (unhide HRW2)).mono ?_
  rintro e w2 ⟨rfl, hb⟩
  have B2 := hide ((unhide B1).trans (hb.mono (unhide B1).size))
  have A2 := hide ((unhide A1).below hb)
  have C2 := hide ((unhide C1).below hb)
  replace HRW1 := hide ((unhide HRW1).below hb)
  replace HRW2 := hide ((unhide HRW2).below hb)
  clear hb B1 A1 C1
  have ka2 := (unhide A2).S
  have kc2 := (unhide C2).S
  go_wp2_with fail
  go_ret2
  exact ⟨rfl, unhide B2⟩
end Go.Proofs.YtamjljhbnhdgdaaDoor

/- The laws' own helper at. -/
namespace Go.Proofs.YtamjljhbnhdgdaaDoor
open Go.ChangeShapes Go.WideShapes Go.ChangeAt Go.RowKit
set_option linter.unusedVariables false
theorem below_drewM {B : Nat} {a b : World} (h : Below B a b) (n : Nat) : Below B a (b.drewN n) := ⟨h.os, h.tape, h.output, h.size, h.block⟩
/-- What a drawn number is. -/
def atV (l : List UInt8) (i n : Nat) : Nat := if l.length = 0 then i * 7 % n else ((l.getD (i % l.length) 0).toNat * 31 + (l.getD ((i + 1) % l.length) 0).toNat + i / l.length) % n
set_option maxHeartbeats 1000000 in
set_option maxRecDepth 100000 in
theorem latV (a : Option Addr) (cap : Nat) (l : List UInt8) (i n v0 : Nat) (HE0 : Hid (v0 = atV l i n)) (hl : l.length ≤ 1048576) (hi : i ≤ 1000) (hn : 2 ≤ n) (hn2 : n ≤ 100000) (w : World) (hr : RowV w a (B8 l)) :
  Calls Tryd.prog 9 #[.slice a l.length cap, .int .i64 (i : Int), .int .i64 (n : Int)] w fun e w' => e = .returned (.int .i64 (v0 : Int)) ∧ Below w.heap.size w w' := by
 have n1 : ¬ (n : Int) ≤ 1 := by omega
 have n3 : ¬ (n : Int) = 0 := by omega
 have n4 : ((n : Int) == 0) = false := beq_eq_false_iff_ne.2 (by omega)
 by_cases h0 : l.length = 0
 ·have e0 : ((l.length : Int) == 0) = true := by rw [h0]; rfl
  have e1 : (l.length : Int) = 0 := by omega
  obtain ⟨v, hv⟩ : ∃ v, v = i * 7 % n := ⟨_, rfl⟩
  have HE : Hid (v = v0) := by show _ = _; rw [unhide HE0, hv]; unfold atV; rw [if_pos h0]
  have HV : Hid (v < n) := by show _ < _; rw [hv]; exact Nat.mod_lt _ (by omega)
  have k2 : ((i : Int) * 7) % (n : Int) = (v : Int) := by rw [hv]; push_cast; rfl
  have k1 : ((i : Int) * 7).tmod (n : Int) = (v : Int) := by rw [Int.tmod_eq_emod_of_nonneg (by omega)]; exact k2
  clear hv hr
  go_enter Tryd.func9, Tryd.ntmps9
  go_wp2_with fail
  go_ret
  have e0 := unhide HE
  subst e0
  exact ⟨rfl, Below.refl _ _⟩
 ·obtain ⟨L, hL⟩ : ∃ L, L = l.length := ⟨_, rfl⟩
  rw [← hL] at h0 hl ⊢
  have e0 : ((L : Int) == 0) = false := beq_eq_false_iff_ne.2 (by omega)
  have e1 : ¬ (L : Int) = 0 := by omega
  obtain ⟨q1, hq1⟩ : ∃ q, q = i % L := ⟨_, rfl⟩
  obtain ⟨q2, hq2⟩ : ∃ q, q = (i + 1) % L := ⟨_, rfl⟩
  obtain ⟨q3, hq3⟩ : ∃ q, q = i / L := ⟨_, rfl⟩
  have q1l : q1 < L := by rw [hq1]; exact Nat.mod_lt _ (by omega)
  have q2l : q2 < L := by rw [hq2]; exact Nat.mod_lt _ (by omega)
  have q3l : q3 ≤ 1000 := by rw [hq3]; exact Nat.le_trans (Nat.div_le_self _ _) hi
  have a2 : (i : Int) % (L : Int) = (q1 : Int) := by rw [hq1]; push_cast; rfl
  have a1 : (i : Int).tmod (L : Int) = (q1 : Int) := by rw [Int.tmod_eq_emod_of_nonneg (by omega)]; exact a2
  have b2 : ((i : Int) + 1) % (L : Int) = (q2 : Int) := by rw [hq2]; push_cast; rfl
  have b1 : ((i : Int) + 1).tmod (L : Int) = (q2 : Int) := by rw [Int.tmod_eq_emod_of_nonneg (by omega)]; exact b2
  have c2 : (i : Int) / (L : Int) = (q3 : Int) := by rw [hq3]; push_cast; rfl
  have c1 : (i : Int).tdiv (L : Int) = (q3 : Int) := by rw [Int.tdiv_eq_ediv_of_nonneg (by omega)]; exact c2
  obtain ⟨b, off, ha, hblt, hc⟩ := hr.at (by rw [B8_len]; omega)
  subst ha
  obtain ⟨x, hx⟩ : ∃ x, x = l[q1].toNat := ⟨_, rfl⟩
  obtain ⟨y, hy⟩ : ∃ y, y = l[q2].toNat := ⟨_, rfl⟩
  have x255 : x ≤ 255 := by rw [hx]; have := l[q1].toNat_lt; omega
  have y255 : y ≤ 255 := by rw [hy]; have := l[q2].toNat_lt; omega
  have r1 : w.cell? ⟨b, off + q1, none⟩ = some (.int .u8 (x : Int)) := by rw [hx]; exact hc q1 _ (by unfold B8; rw [List.getElem?_map, List.getElem?_eq_getElem (by omega)]; rfl)
  have r2 : w.cell? ⟨b, off + q2, none⟩ = some (.int .u8 (y : Int)) := by rw [hy]; exact hc q2 _ (by unfold B8; rw [List.getElem?_map, List.getElem?_eq_getElem (by omega)]; rfl)
  obtain ⟨v, hv⟩ : ∃ v, v = (x * 31 + y + q3) % n := ⟨_, rfl⟩
  have HE : Hid (v = v0) := by
   show _ = _
   rw [unhide HE0]
   unfold atV
   rw [if_neg (by rw [← hL]; exact h0), show i % l.length = q1 from by rw [hq1, hL], show (i + 1) % l.length = q2 from by rw [hq2, hL], show i / l.length = q3 from by rw [hq3, hL], List.getD_eq_getElem?_getD, List.getD_eq_getElem?_getD, List.getElem?_eq_getElem (by omega : q1 < l.length), List.getElem?_eq_getElem (by omega : q2 < l.length), hv, hx, hy]
   rfl
  have HV : Hid (v < n) := by show _ < _; rw [hv]; exact Nat.mod_lt _ (by omega)
  have k2 : ((x : Int) * 31 + (y : Int) + (q3 : Int)) % (n : Int) = (v : Int) := by rw [hv]; push_cast; rfl
  have k1 : ((x : Int) * 31 + (y : Int) + (q3 : Int)).tmod (n : Int) = (v : Int) := by rw [Int.tmod_eq_emod_of_nonneg (by omega)]; exact k2
  have w1 : IntKind.i64.wrap ((x : Int) * 31) = (x : Int) * 31 := wrapi _ (by omega) (by omega)
  have w2 : IntKind.i64.wrap ((x : Int) * 31 + (y : Int)) = (x : Int) * 31 + (y : Int) := wrapi _ (by omega) (by omega)
  have w3 : IntKind.i64.wrap ((x : Int) * 31 + (y : Int) + (q3 : Int)) = (x : Int) * 31 + (y : Int) + (q3 : Int) := wrapi _ (by omega) (by omega)
  have w4 : IntKind.i64.wrap ((i : Int) + 1) = (i : Int) + 1 := wrapi _ (by omega) (by omega)
  have w5 : IntKind.i64.wrap (q1 : Int) = (q1 : Int) := wrapi _ (by omega) (by omega)
  have w6 : IntKind.i64.wrap (q2 : Int) = (q2 : Int) := wrapi _ (by omega) (by omega)
  have w7 : IntKind.i64.wrap (q3 : Int) = (q3 : Int) := wrapi _ (by omega) (by omega)
  have w8 : IntKind.i64.wrap (v : Int) = (v : Int) := wrapi _ (by have := unhide HV; omega) (by have := unhide HV; omega)
  have w9 : IntKind.i64.wrap (x : Int) = (x : Int) := wrapi _ (by omega) (by omega)
  have w10 : IntKind.i64.wrap (y : Int) = (y : Int) := wrapi _ (by omega) (by omega)
  have l1 : (q1 : Int) < (L : Int) := by omega
  have l2 : (q2 : Int) < (L : Int) := by omega
  have l3 : (0 : Int) ≤ (q1 : Int) := by omega
  have l4 : (0 : Int) ≤ (q2 : Int) := by omega
  clear hc hx hy hv hq1 hq2 hq3 hr hL
  go_enter Tryd.func9, Tryd.ntmps9
  go_wp2_with fail
  go_quiet (fail)
  go_wp2_with fail
  go_ret
  have e0 := unhide HE
  subst e0
  exact ⟨rfl, below_drewM (Below.refl _ _) _⟩
end Go.Proofs.YtamjljhbnhdgdaaDoor

/- What the row's list gives of the named errors of stores. -/
namespace Go.Proofs.YtamjljhbnhdgdaaDoor
open Go.ChangeShapes Go.WideShapes Go.ChangeAt Go.RowKit
set_option linter.unusedVariables false
theorem starE : "*" ++ "errors.errorString" = "*errors.errorString" := by decide
theorem rowE (u : TypeId) (h : Tryd.prog.typeName? 3 u = some "*errors.errorString") : u = 145 :=
 typeName_ptr_named (nm := "errors.errorString") (by rw [starE]; kernel_rfl) (by kernel_rfl) (by decide) u (by rw [starE]; exact h)
end Go.Proofs.YtamjljhbnhdgdaaDoor
