/- Texts put together: SamM EqlI. -/
import Derived.Test.YtkdplhhkkpkmoaaDoorZG2
import Derived.Test.YtkdplhhkkpkmoaaDoorZG27
/- States held against each other. Plain mathematics. -/
namespace Go.Proofs.YtkdplhhkkpkmoaaDoor
open Go.ChangeShapes Go.WideShapes Go.ChangeAt Go.RowKit
set_option linter.unusedVariables false
def SameIs (tm vt : Int) (l : List Ent) (tm2 vt2 : Int) (m : List Ent) (R : Bool) (c : Int) : Prop :=
 (stateB tm vt l = true ∧ stateB tm2 vt2 m = true ∧ R = decide (tm = tm2 ∧ vt = vt2 ∧ l = m) ∧ c = 0) ∨ ((stateB tm vt l = false ∨ (stateB tm vt l = true ∧ stateB tm2 vt2 m = false)) ∧ R = false ∧ c = 1)
theorem sm1 {tm tm2 vt vt2 : Int} {l m : List Ent} (h : ¬ tm = tm2) : decide (tm = tm2 ∧ vt = vt2 ∧ l = m) = false := decide_eq_false fun x => h x.1
theorem sm2 {tm tm2 vt vt2 : Int} {l m : List Ent} (h : ¬ vt = vt2) : decide (tm = tm2 ∧ vt = vt2 ∧ l = m) = false := decide_eq_false fun x => h x.2.1
theorem sm4 {tm vt : Int} {l m : List Ent} : decide (tm = tm ∧ vt = vt ∧ l = m) = decide (l = m) := by simp
end Go.Proofs.YtkdplhhkkpkmoaaDoor

/- slices.Equal of two logs. -/
namespace Go.Proofs.YtkdplhhkkpkmoaaDoor
open Go.ChangeShapes Go.WideShapes Go.ChangeAt Go.RowKit
set_option linter.unusedVariables false
attribute [local go_sem ↓] run_neEnt
theorem eq_stop {l m : List Ent} {k : Nat} {h1 : k < l.length} {h2 : k < m.length} (h : l[k] ≠ m[k]) : decide (l = m) = false := decide_eq_false fun e => h (by subst e; rfl)
theorem eq_all {l m : List Ent} (hl : l.length = m.length) (h : ∀ q (h : q < l.length) (h2 : q < m.length), l[q] = m[q]) : decide (l = m) = true := decide_eq_true (List.ext_getElem hl h)
set_option maxHeartbeats 2000000 in
set_option maxRecDepth 100000 in
theorem iequal (a c : Option Addr) (cap cap2 n n2 : Nat) (l m : List Ent) (HN : Hid (l.length = n)) (HN2 : Hid (m.length = n2)) (hn : n ≤ 60) (hn2 : n2 ≤ 60) (R : Bool) (HR0 : Hid (R = decide (l = m))) (w : World) (hr : RowV w a (cE l)) (hr2 : RowV w c (cE m)) :
  Calls Tryd.prog 25 #[.slice a n cap, .slice c n2 cap2] w fun e w' => e = .returned (.bool R) ∧ Below w.heap.size w w' := by
 have HR := hide hr
 have HR2 := hide hr2
 have HCL := hide (cE_len l)
 have HCM := hide (cE_len m)
 clear hr hr2
 by_cases hnn : n = n2
 ·subst hnn
  have hne : ((n : Int) != (n : Int)) = false := by simp
  go_enter Tryd.func25, Tryd.ntmps25
  go_wp2_with fail
  go_loopw [13] (fun i wr => ∃ k : Nat, k ≤ n ∧ i = .int .i64 k ∧ Hid (∀ q (h : q < l.length) (h2 : q < m.length), q < k → l[q] = m[q]) ∧ Hid (Below w.heap.size w wr)) (fun i _ => n - (intOf i).toNat)
  case atStart => exact ⟨0, by omega, rfl, fun q _ _ h => absurd h (Nat.not_lt_zero _), Below.refl _ _⟩
  case round =>
   obtain ⟨k, hk, rfl, HF, HB⟩ := hrel
   by_cases hlt : k < n
   ·obtain ⟨b, off, ha, hblt, hc⟩ := (unhide HR).at (by rw [unhide HCL, unhide HN]; omega)
    obtain ⟨b2, off2, ha2, hblt2, hc2⟩ := (unhide HR2).at (by rw [unhide HCM, unhide HN2]; omega)
    subst ha ha2
    have hlk : k < l.length := by rw [unhide HN]; exact hlt
    have hmk : k < m.length := by rw [unhide HN2]; exact hlt
    obtain ⟨x0, x1⟩ := row_ent hc k hlk
    obtain ⟨y0, y1⟩ := row_ent hc2 k hmk
    obtain ⟨t, et⟩ : ∃ t, t = l[k].1 := ⟨_, rfl⟩
    obtain ⟨d, ed⟩ : ∃ d, d = l[k].2 := ⟨_, rfl⟩
    obtain ⟨u, eu⟩ : ∃ u, u = m[k].1 := ⟨_, rfl⟩
    obtain ⟨e, ee⟩ : ∃ e, e = m[k].2 := ⟨_, rfl⟩
    rw [← et] at x0
    rw [← ed] at x1
    rw [← eu] at y0
    rw [← ee] at y1
    have hx0 : wr.cell? ⟨b, off + k * 2, none⟩ = some (.int .i64 t) := ((unhide HB).cell (p := ⟨b, off + k * 2, none⟩) hblt).trans x0
    have hx1 : wr.cell? ⟨b, off + k * 2 + 1, none⟩ = some (.string d) := ((unhide HB).cell (p := ⟨b, off + k * 2 + 1, none⟩) hblt).trans x1
    have hy0 : wr.cell? ⟨b2, off2 + k * 2, none⟩ = some (.int .i64 u) := ((unhide HB).cell (p := ⟨b2, off2 + k * 2, none⟩) hblt2).trans y0
    have hy1 : wr.cell? ⟨b2, off2 + k * 2 + 1, none⟩ = some (.string e) := ((unhide HB).cell (p := ⟨b2, off2 + k * 2 + 1, none⟩) hblt2).trans y1
    have i1 : (k : Int) < (n : Int) := by omega
    have i0 : (0 : Int) ≤ (k : Int) := by omega
    have hcmp := ent_cmp et ed eu ee (h1 := hlk) (h2 := hmk)
    cases heq : entEq t u d e with
    | true =>
     have HF2 : Hid (∀ q (h : q < l.length) (h2 : q < m.length), q < k + 1 → l[q] = m[q]) := fun q h h2 hq => by
      by_cases e : q = k
      ·subst e; exact hcmp.1 heq
      ·exact unhide HF q h h2 (by omega)
     clear hc hc2 x0 x1 y0 y1 et ed eu ee HF HR HR2 hcmp
     go_wp2_with fail
     go_quiet (fail)
     go_wp2_with fail
     go_roundw
     case rel => exact ⟨k + 1, by omega, by go_num, HF2, bdN (unhide HB) _⟩
     case measure => simp [intOf]; omega
    | false =>
     obtain rfl : R = false := (unhide HR0).trans (eq_stop (hcmp.2 heq))
     clear hc hc2 x0 x1 y0 y1 et ed eu ee HF HR HR2 hcmp HR0
     go_wp2_with fail
     go_quiet (fail)
     go_wp2_with fail
     go_ret
     exact ⟨rfl, bdN (unhide HB) _⟩
   ·obtain rfl : R = true := (unhide HR0).trans (eq_all (by rw [unhide HN, unhide HN2]) fun q h h2 => unhide HF q h h2 (by have := unhide HN; omega))
    go_wp2_with fail
    go_ret
    exact ⟨rfl, unhide HB⟩
 ·obtain rfl : R = false := (unhide HR0).trans (decide_eq_false fun e => hnn (by rw [← unhide HN, ← unhide HN2, e]))
  have hne : ((n : Int) != (n2 : Int)) = true := by simp; omega
  go_enter Tryd.func25, Tryd.ntmps25
  go_wp2_with fail
  go_ret
  exact ⟨rfl, Below.refl _ _⟩
end Go.Proofs.YtkdplhhkkpkmoaaDoor
