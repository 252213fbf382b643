/- Texts put together: EqE EqlI SamI StT. -/
import Derived.Test.YtfogppnijdjakaaGreatDoorZG1
import Derived.BigQuiet
import Derived.WalkSmall
import Derived.Test.YtfogppnijdjakaaGreatDoorZG17
import Derived.Test.YtfogppnijdjakaaGreatDoorZG16
import Derived.Test.YtfogppnijdjakaaGreatDoorZG11
import Derived.Stop.LaidTwo
import Derived.LaidHandle
import Derived.OpenVars
import Derived.LaidMore
/- Entries compared. -/
namespace Go.Proofs.YtfogppnijdjakaaGreatDoor
open Go.ChangeShapes Go.WideShapes Go.ChangeAt Go.RowKit
def entEq (t u : Int) (d e : ByteArray) : Bool := decide (t = u ∧ d = e)
theorem list_text {a b : ByteArray} (h : a.toList = b.toList) : a = b := by
 rw [ByteArray.toList_eq, ByteArray.toList_eq] at h
 obtain ⟨⟨x⟩⟩ := a
 obtain ⟨⟨y⟩⟩ := b
 simp at h; rw [h]
set_option maxRecDepth 100000 in
theorem run_eqEnt (w : World) (t u : Int) (d e : ByteArray) : (binOp .eql 103 (.agg #[.int .i64 t, .string d]) (.agg #[.int .i64 u, .string e])).run Tryz.prog w = .ok (.bool (entEq t u d e)) w := by
 by_cases h : t = u
 ·subst h
  by_cases h2 : d = e
  ·subst h2
   have hh : entEq t t d d = true := decide_eq_true ⟨rfl, rfl⟩
   rw [hh]
   go_simp
  ·have hh : entEq t t d e = false := decide_eq_false fun hx => h2 hx.2
   have hl : (d.toList == e.toList) = false := by rw [beq_eq_false_iff_ne]; exact fun hx => h2 (list_text hx)
   rw [hh]
   go_simp
 ·have hh : entEq t u d e = false := decide_eq_false fun hx => h hx.1
  have hl : (t == u) = false := by rw [beq_eq_false_iff_ne]; exact h
  rw [hh]
  go_simp
set_option maxRecDepth 100000 in
theorem run_neEnt (w : World) (t u : Int) (d e : ByteArray) : (binOp .neq 103 (.agg #[.int .i64 t, .string d]) (.agg #[.int .i64 u, .string e])).run Tryz.prog w = .ok (.bool (!(entEq t u d e))) w := by
 by_cases h : t = u
 ·subst h
  by_cases h2 : d = e
  ·subst h2
   have hh : entEq t t d d = true := decide_eq_true ⟨rfl, rfl⟩
   rw [hh]
   go_simp
  ·have hh : entEq t t d e = false := decide_eq_false fun hx => h2 hx.2
   have hl : (d.toList == e.toList) = false := by rw [beq_eq_false_iff_ne]; exact fun hx => h2 (list_text hx)
   rw [hh]
   go_simp
 ·have hh : entEq t u d e = false := decide_eq_false fun hx => h hx.1
  have hl : (t == u) = false := by rw [beq_eq_false_iff_ne]; exact h
  rw [hh]
  go_simp
theorem ent_cmp {l m : List Ent} {k : Nat} {h1 : k < l.length} {h2 : k < m.length} {t u : Int} {d e : ByteArray} (a1 : t = l[k].1) (a2 : d = l[k].2) (b1 : u = m[k].1) (b2 : e = m[k].2) : (entEq t u d e = true → l[k] = m[k]) ∧ (entEq t u d e = false → l[k] ≠ m[k]) :=
 ⟨fun h => Prod.ext (by rw [← a1, ← b1]; exact (of_decide_eq_true h).1) (by rw [← a2, ← b2]; exact (of_decide_eq_true h).2), fun h hh => of_decide_eq_false h ⟨by rw [a1, b1, hh], by rw [a2, b2, hh]⟩⟩
end Go.Proofs.YtfogppnijdjakaaGreatDoor

/- slices.Equal of two logs. -/
namespace Go.Proofs.YtfogppnijdjakaaGreatDoor
open Go.ChangeShapes Go.WideShapes Go.ChangeAt Go.RowKit
set_option linter.unusedVariables false
attribute [local go_sem ↓] run_neEnt
theorem eq_stop {l m : List Ent} {k : Nat} {h1 : k < l.length} {h2 : k < m.length} (h : l[k] ≠ m[k]) : decide (l = m) = false := decide_eq_false fun e => h (by subst e; rfl)
theorem eq_all {l m : List Ent} (hl : l.length = m.length) (h : ∀ q (h : q < l.length) (h2 : q < m.length), l[q] = m[q]) : decide (l = m) = true := decide_eq_true (List.ext_getElem hl h)
set_option maxHeartbeats 2000000 in
set_option maxRecDepth 100000 in
theorem iequal (a c : Option Addr) (cap cap2 n n2 : Nat) (l m : List Ent) (HN : Hid (l.length = n)) (HN2 : Hid (m.length = n2)) (hn : n ≤ 60) (hn2 : n2 ≤ 60) (R : Bool) (HR0 : Hid (R = decide (l = m))) (w : World) (hr : RowV w a (cE l)) (hr2 : RowV w c (cE m)) :
  Calls Tryz.prog 100 #[.slice a n cap, .slice c n2 cap2] w fun e w' => e = .returned (.bool R) ∧ Below w.heap.size w w' := by
 have HR := hide hr
 have HR2 := hide hr2
 have HCL := hide (cE_len l)
 have HCM := hide (cE_len m)
 clear hr hr2
 by_cases hnn : n = n2
 ·subst hnn
  have hne : ((n : Int) != (n : Int)) = false := by simp
  go_enter Tryz.func100, Tryz.ntmps100
  go_wp2_with fail
  go_loopw [13] (fun i wr => ∃ k : Nat, k ≤ n ∧ i = .int .i64 k ∧ Hid (∀ q (h : q < l.length) (h2 : q < m.length), q < k → l[q] = m[q]) ∧ Hid (Below w.heap.size w wr)) (fun i _ => n - (intOf i).toNat)
  case atStart => exact ⟨0, by omega, rfl, fun q _ _ h => absurd h (Nat.not_lt_zero _), Below.refl _ _⟩
  case round =>
   obtain ⟨k, hk, rfl, HF, HB⟩ := hrel
   by_cases hlt : k < n
   ·obtain ⟨b, off, ha, hblt, hc⟩ := (unhide HR).at (by rw [unhide HCL, unhide HN]; omega)
    obtain ⟨b2, off2, ha2, hblt2, hc2⟩ := (unhide HR2).at (by rw [unhide HCM, unhide HN2]; omega)
    subst ha ha2
    have hlk : k < l.length := by rw [unhide HN]; exact hlt
    have hmk : k < m.length := by rw [unhide HN2]; exact hlt
    obtain ⟨x0, x1⟩ := row_ent hc k hlk
    obtain ⟨y0, y1⟩ := row_ent hc2 k hmk
    obtain ⟨t, et⟩ : ∃ t, t = l[k].1 := ⟨_, rfl⟩
    obtain ⟨d, ed⟩ : ∃ d, d = l[k].2 := ⟨_, rfl⟩
    obtain ⟨u, eu⟩ : ∃ u, u = m[k].1 := ⟨_, rfl⟩
    obtain ⟨e, ee⟩ : ∃ e, e = m[k].2 := ⟨_, rfl⟩
    rw [← et] at x0
    rw [← ed] at x1
    rw [← eu] at y0
    rw [← ee] at y1
    have hx0 : wr.cell? ⟨b, off + k * 2, none⟩ = some (.int .i64 t) := ((unhide HB).cell (p := ⟨b, off + k * 2, none⟩) hblt).trans x0
    have hx1 : wr.cell? ⟨b, off + k * 2 + 1, none⟩ = some (.string d) := ((unhide HB).cell (p := ⟨b, off + k * 2 + 1, none⟩) hblt).trans x1
    have hy0 : wr.cell? ⟨b2, off2 + k * 2, none⟩ = some (.int .i64 u) := ((unhide HB).cell (p := ⟨b2, off2 + k * 2, none⟩) hblt2).trans y0
    have hy1 : wr.cell? ⟨b2, off2 + k * 2 + 1, none⟩ = some (.string e) := ((unhide HB).cell (p := ⟨b2, off2 + k * 2 + 1, none⟩) hblt2).trans y1
    have i1 : (k : Int) < (n : Int) := by omega
    have i0 : (0 : Int) ≤ (k : Int) := by omega
    have hcmp := ent_cmp et ed eu ee (h1 := hlk) (h2 := hmk)
    cases heq : entEq t u d e with
    | true =>
     have HF2 : Hid (∀ q (h : q < l.length) (h2 : q < m.length), q < k + 1 → l[q] = m[q]) := fun q h h2 hq => by
      by_cases e : q = k
      ·subst e; exact hcmp.1 heq
      ·exact unhide HF q h h2 (by omega)
     clear hc hc2 x0 x1 y0 y1 et ed eu ee HF HR HR2 hcmp
     go_wp2_with fail
     go_quiet (fail)
     go_wp2_with fail
     go_roundw
     case rel => exact ⟨k + 1, by omega, by go_num, HF2, bdN (unhide HB) _⟩
     case measure => simp [intOf]; omega
    | false =>
     obtain rfl : R = false := (unhide HR0).trans (eq_stop (hcmp.2 heq))
     clear hc hc2 x0 x1 y0 y1 et ed eu ee HF HR HR2 hcmp HR0
     go_wp2_with fail
     go_quiet (fail)
     go_wp2_with fail
     go_ret
     exact ⟨rfl, bdN (unhide HB) _⟩
   ·obtain rfl : R = true := (unhide HR0).trans (eq_all (by rw [unhide HN, unhide HN2]) fun q h h2 => unhide HF q h h2 (by have := unhide HN; omega))
    go_wp2_with fail
    go_ret
    exact ⟨rfl, unhide HB⟩
 ·obtain rfl : R = false := (unhide HR0).trans (decide_eq_false fun e => hnn (by rw [← unhide HN, ← unhide HN2, e]))
  have hne : ((n : Int) != (n2 : Int)) = true := by simp; omega
  go_enter Tryz.func100, Tryz.ntmps100
  go_wp2_with fail
  go_ret
  exact ⟨rfl, Below.refl _ _⟩
end Go.Proofs.YtfogppnijdjakaaGreatDoor

/- States held against each other: what the program answers. -/
namespace Go.Proofs.YtfogppnijdjakaaGreatDoor
open Go.ChangeShapes Go.WideShapes Go.ChangeAt Go.RowKit
set_option linter.unusedVariables false
set_option maxHeartbeats 4000000 in
set_option maxRecDepth 100000 in
theorem isame (tm vt : Int) (a : Option Addr) (cap n : Nat) (l : List Ent) (HN : Hid (l.length = n)) (hn : n ≤ 1048576) (HSZ : Hid (∀ k (h : k < l.length), l[k].2.size ≤ 1048576)) (tm2 vt2 : Int) (a2 : Option Addr) (cap2 n2 : Nat) (m : List Ent) (HN2 : Hid (m.length = n2)) (hn2 : n2 ≤ 1048576) (HSZ2 : Hid (∀ k (h : k < m.length), m[k].2.size ≤ 1048576)) (R : Bool) (c : Int) (HIS : Hid (SameIs tm vt l tm2 vt2 m R c)) (w : World) (hr : RowV w a (cE l)) (hr2 : RowV w a2 (cE m)) :
  Calls Tryz.prog 89 #[.agg #[.int .i64 tm, .int .i64 vt, .slice a n cap], .agg #[.int .i64 tm2, .int .i64 vt2, .slice a2 n2 cap2]] w fun e w' => e = .returned (.tuple #[.bool R, .int .i64 c]) ∧ Below w.heap.size w w' := by
 have B0 := hide (Go.Joins.below_alloc2 w (.cells #[.int .i64 tm, .int .i64 vt, .slice a n cap] 76) (.cells #[.int .i64 tm2, .int .i64 vt2, .slice a2 n2 cap2] 76))
 have A0 := hide ((BF.new w #[.int .i64 tm, .int .i64 vt, .slice a n cap] 76).alloc (.cells #[.int .i64 tm2, .int .i64 vt2, .slice a2 n2 cap2] 76))
 have C0 := hide (BF.new (w.alloc (.cells #[.int .i64 tm, .int .i64 vt, .slice a n cap] 76)) #[.int .i64 tm2, .int .i64 vt2, .slice a2 n2 cap2] 76)
 rw [show (w.alloc (.cells #[.int .i64 tm, .int .i64 vt, .slice a n cap] 76)).heap.size = w.heap.size + 1 from by simp] at C0
 have HRW1 := hide (hr.below (unhide B0))
 have HRW2 := hide (hr2.below (unhide B0))
 clear hr hr2
 rcases unhide HIS with ⟨k1, k2, hR, rfl⟩ | ⟨k1 | ⟨k1, k2⟩, rfl, rfl⟩
 ·have HK1 := hide k1.symm
  have HK2 := hide k2.symm
  have HP1 := hide (state_parts k1).2.2.1
  have HP2 := hide (state_parts k2).2.2.1
  have HR := hide hR
  clear HIS k1 k2 hR
  go_enter Tryz.func89, Tryz.ntmps89
  go_wp2_with fail
  refine (istateok tm vt a cap n l HN hn HSZ true HK1 _ (unhide HRW1)).mono ?_
  rintro e w1 ⟨rfl, hb⟩
  have B1 := hide ((unhide B0).trans (hb.mono (unhide B0).size))
  have A1 := hide ((unhide A0).below hb)
  have C1 := hide ((unhide C0).below hb)
  replace HRW1 := hide ((unhide HRW1).below hb)
  replace HRW2 := hide ((unhide HRW2).below hb)
  clear hb B0 A0 C0
  have ka1 := (unhide A1).S
  have kc1 := (unhide C1).S
  go_wp2_with fail
  refine (istateok tm2 vt2 a2 cap2 n2 m HN2 hn2 HSZ2 true HK2 _ (unhide HRW2)).mono ?_
  rintro e w2 ⟨rfl, hb⟩
  have B2 := hide ((unhide B1).trans (hb.mono (unhide B1).size))
  have A2 := hide ((unhide A1).below hb)
  have C2 := hide ((unhide C1).below hb)
  replace HRW1 := hide ((unhide HRW1).below hb)
  replace HRW2 := hide ((unhide HRW2).below hb)
  clear hb B1 A1 C1
  have ka2 := (unhide A2).S
  have kc2 := (unhide C2).S
  have hp1 : n ≤ 60 := by have := unhide HP1; rw [unhide HN] at this; exact this
  have hp2 : n2 ≤ 60 := by have := unhide HP2; rw [unhide HN2] at this; exact this
  clear HP1 HP2
  by_cases h1 : tm = tm2
  ·by_cases h2 : vt = vt2
   ·subst h1 h2
    have HR1 := hide ((unhide HR).trans sm4)
    go_wp2_with fail
    refine (iequal a a2 cap cap2 n n2 l m HN HN2 hp1 hp2 R HR1 _ (unhide HRW1) (unhide HRW2)).mono ?_
    rintro e w3 ⟨rfl, hb⟩
    have B3 := hide ((unhide B2).trans (hb.mono (unhide B2).size))
    clear hb B2 A2 C2
    go_wp2_with fail
    go_ret2
    exact ⟨rfl, unhide B3⟩
   ·subst h1
    obtain rfl : R = false := (unhide HR).trans (sm2 h2)
    have hb2 : (vt == vt2) = false := by simpa using h2
    go_wp2_with fail
    go_ret2
    exact ⟨rfl, unhide B2⟩
  ·obtain rfl : R = false := (unhide HR).trans (sm1 h1)
   have hb1 : (tm == tm2) = false := by simpa using h1
   go_wp2_with fail
   go_ret2
   exact ⟨rfl, unhide B2⟩
 ·have HK1 := hide k1.symm
  clear HIS k1
  go_enter Tryz.func89, Tryz.ntmps89
  go_wp2_with fail
  refine (istateok tm vt a cap n l HN hn HSZ false HK1 _ (unhide HRW1)).mono ?_
  rintro e w1 ⟨rfl, hb⟩
  have B1 := hide ((unhide B0).trans (hb.mono (unhide B0).size))
  have A1 := hide ((unhide A0).below hb)
  have C1 := hide ((unhide C0).below hb)
  replace HRW1 := hide ((unhide HRW1).below hb)
  replace HRW2 := hide ((unhide HRW2).below hb)
  clear hb B0 A0 C0
  have ka1 := (unhide A1).S
  have kc1 := (unhide C1).S
  go_wp2_with fail
  go_ret2
  exact ⟨rfl, unhide B1⟩
 ·have HK1 := hide k1.symm
  have HK2 := hide k2.symm
  clear HIS k1 k2
  go_enter Tryz.func89, Tryz.ntmps89
  go_wp2_with fail
  refine (istateok tm vt a cap n l HN hn HSZ true HK1 _ (unhide HRW1)).mono ?_
  rintro e w1 ⟨rfl, hb⟩
  have B1 := hide ((unhide B0).trans (hb.mono (unhide B0).size))
  have A1 := hide ((unhide A0).below hb)
  have C1 := hide ((unhide C0).below hb)
  replace HRW1 := hide ((unhide HRW1).below hb)
  replace HRW2 := hide ((unhide HRW2).below hb)
  clear hb B0 A0 C0
  have ka1 := (unhide A1).S
  have kc1 := (unhide C1).S
  go_wp2_with fail
  refine (istateok tm2 vt2 a2 cap2 n2 m HN2 hn2 HSZ2 false HK2 _ (unhide HRW2)).mono ?_
  rintro e w2 ⟨rfl, hb⟩
  have B2 := hide ((unhide B1).trans (hb.mono (unhide B1).size))
  have A2 := hide ((unhide A1).below hb)
  have C2 := hide ((unhide C1).below hb)
  replace HRW1 := hide ((unhide HRW1).below hb)
  replace HRW2 := hide ((unhide HRW2).below hb)
  clear hb B1 A1 C1
  have ka2 := (unhide A2).S
  have kc2 := (unhide C2).S
  go_wp2_with fail
  go_ret2
  exact ⟨rfl, unhide B2⟩
end Go.Proofs.YtfogppnijdjakaaGreatDoor

/- What the row's list gives of the named errors of stores. -/
namespace Go.Proofs.YtfogppnijdjakaaGreatDoor
open Go.ChangeShapes Go.WideShapes Go.ChangeAt Go.RowKit
set_option linter.unusedVariables false
theorem starE : "*" ++ "errors.errorString" = "*errors.errorString" := by decide
theorem rowE (u : TypeId) (h : Tryz.prog.typeName? 3 u = some "*errors.errorString") : u = 194 :=
 typeName_ptr_named (nm := "errors.errorString") (by rw [starE]; kernel_rfl) (by kernel_rfl) (by decide) u (by rw [starE]; exact h)
end Go.Proofs.YtfogppnijdjakaaGreatDoor
