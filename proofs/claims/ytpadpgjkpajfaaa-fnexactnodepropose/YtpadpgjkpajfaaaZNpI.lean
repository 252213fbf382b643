/- A message of a node, who has a place, what a node is told: what the program answers. -/
import Derived.Test.YtpadpgjkpajfaaaZG3
import Derived.Test.YtpadpgjkpajfaaaZG10
import Derived.Test.YtpadpgjkpajfaaaZClnJ
namespace Go.Proofs.Ytpadpgjkpajfaaa
open Go.ChangeShapes Go.WideShapes Go.ChangeAt Go.RowKit
set_option linter.unusedVariables false
set_option maxHeartbeats 4000000 in
set_option maxRecDepth 100000 in
theorem imsgv (id nd tm vt ro cm el wt : Int) (up : Bool) (a : Option Addr) (cap n : Nat) (av : Option Addr) (cv nv : Nat) (ax : Option Addr) (cx nx : Nat) (ag : Option Addr) (cg ng : Nat) (kd to : Int) (w : World) :
    Calls Try.prog 60 #[.agg #[.int .i64 id, .int .i64 nd, .int .i64 tm, .int .i64 vt, .int .i64 ro, .bool up, .slice a n cap, .int .i64 cm, .int .i64 el, .int .i64 wt, .slice av nv cv, .slice ax nx cx, .slice ag ng cg], .int .i64 kd, .int .i64 to] w fun e w' => e = .returned (.agg #[.int .i64 kd, .int .i64 id, .int .i64 to, .int .i64 tm, .int .i64 0, .int .i64 0, .int .i64 0, .bool false, .slice none 0 0]) ∧ Below w.heap.size w w' := by
  have B0 := hide (Go.Joins.below_alloc2 w (.cells #[.int .i64 id, .int .i64 nd, .int .i64 tm, .int .i64 vt, .int .i64 ro, .bool up, .slice a n cap, .int .i64 cm, .int .i64 el, .int .i64 wt, .slice av nv cv, .slice ax nx cx, .slice ag ng cg] 29) (.cells #[.int .i64 0, .int .i64 0, .int .i64 0, .int .i64 0, .int .i64 0, .int .i64 0, .int .i64 0, .bool false, .slice none 0 0] 55))
  have A0 := hide ((BF.new w #[.int .i64 id, .int .i64 nd, .int .i64 tm, .int .i64 vt, .int .i64 ro, .bool up, .slice a n cap, .int .i64 cm, .int .i64 el, .int .i64 wt, .slice av nv cv, .slice ax nx cx, .slice ag ng cg] 29).alloc (.cells #[.int .i64 0, .int .i64 0, .int .i64 0, .int .i64 0, .int .i64 0, .int .i64 0, .int .i64 0, .bool false, .slice none 0 0] 55))
  have Z0 := hide (BF.new (w.alloc (.cells #[.int .i64 id, .int .i64 nd, .int .i64 tm, .int .i64 vt, .int .i64 ro, .bool up, .slice a n cap, .int .i64 cm, .int .i64 el, .int .i64 wt, .slice av nv cv, .slice ax nx cx, .slice ag ng cg] 29)) #[.int .i64 0, .int .i64 0, .int .i64 0, .int .i64 0, .int .i64 0, .int .i64 0, .int .i64 0, .bool false, .slice none 0 0] 55)
  simp only [World.size_alloc] at Z0
  have ka := (unhide A0).S
  have kz := (unhide Z0).S
  have kzf := (unhide Z0).F
  go_enter Try.func60, Try.ntmps60
  go_wp2_with fail
  refine bodyPost_ret (v := .agg #[.int .i64 kd, .int .i64 id, .int .i64 to, .int .i64 tm, .int .i64 0, .int .i64 0, .int .i64 0, .bool false, .slice none 0 0]) (by simp [results, Try.results60, go_sem]) rfl ⟨rfl, ?_⟩
  exact Go.Joins.below_alloc2 w _ _
set_option maxHeartbeats 4000000 in
set_option maxRecDepth 100000 in
theorem iholders (id nd tm vt ro cm el wt : Int) (up : Bool) (a : Option Addr) (cap n : Nat) (av : Option Addr) (cv nv : Nat) (ax : Option Addr) (cx nx : Nat) (ag : Option Addr) (cg ng : Nat) (lg : List Int) (HNg : Hid (lg.length = ng)) (hng : ng ≤ 1048576) (p : Int) (C : Nat) (HC : Hid (C = holds id p lg)) (w : World) (hrg : RowV w ag (cI lg)) :
    Calls Try.prog 52 #[.agg #[.int .i64 id, .int .i64 nd, .int .i64 tm, .int .i64 vt, .int .i64 ro, .bool up, .slice a n cap, .int .i64 cm, .int .i64 el, .int .i64 wt, .slice av nv cv, .slice ax nx cx, .slice ag ng cg], .int .i64 p] w fun e w' => e = .returned (.int .i64 (C : Int)) ∧ Below w.heap.size w w' := by
  have B0 := hide (Go.Joins.below_alloc1 w (.cells #[.int .i64 id, .int .i64 nd, .int .i64 tm, .int .i64 vt, .int .i64 ro, .bool up, .slice a n cap, .int .i64 cm, .int .i64 el, .int .i64 wt, .slice av nv cv, .slice ax nx cx, .slice ag ng cg] 29))
  have A0 := hide (BF.new w #[.int .i64 id, .int .i64 nd, .int .i64 tm, .int .i64 vt, .int .i64 ro, .bool up, .slice a n cap, .int .i64 cm, .int .i64 el, .int .i64 wt, .slice av nv cv, .slice ax nx cx, .slice ag ng cg] 29)
  have HRG := hide (hrg.below (unhide B0))
  clear hrg
  have ka := (unhide A0).S
  go_enter Try.func52, Try.ntmps52
  go_wp2_with fail
  clear ka
  generalize w.alloc (.cells #[.int .i64 id, .int .i64 nd, .int .i64 tm, .int .i64 vt, .int .i64 ro, .bool up, .slice a n cap, .int .i64 cm, .int .i64 el, .int .i64 wt, .slice av nv cv, .slice ax nx cx, .slice ag ng cg] 29) = wq at A0 B0 HRG ⊢
  go_loopw [5, 11] (fun c i wr => ∃ (k m : Nat), k ≤ ng ∧ m ≤ k + 1 ∧ c = .int .i64 (m : Int) ∧ i = .int .i64 k ∧ Hid (m + holdA id p k (lg.drop k) = C) ∧ wr = wq) (fun _ i _ => ng - (intOf i).toNat)
  case atStart => exact ⟨0, 1, by omega, by omega, rfl, rfl, by show _ = _; rw [unhide HC, List.drop_zero]; rfl, rfl⟩
  case round =>
    obtain ⟨k, m, hk, hmk, rfl, rfl, HI, rfl⟩ := hrel
    have ka := (unhide A0).S
    by_cases hlt : k < ng
    · have hkl : k < lg.length := by rw [unhide HNg]; exact hlt
      obtain ⟨b, off, rfl, hblt, hc⟩ := (unhide HRG).at (by rw [cI_len]; omega)
      obtain ⟨x, ex⟩ : ∃ x, x = lg[k] := ⟨_, rfl⟩
      have hx := hc k _ (cI_at lg k hkl)
      rw [← ex] at hx
      have hI := unhide HI
      rw [holdA_drop id p lg k hkl, ← ex] at hI
      have i1 : (k : Int) < (ng : Int) := by omega
      have i0 : (0 : Int) ≤ (k : Int) := by omega
      clear hc ex hkl HI
      by_cases h1 : (k : Int) = id
      · have z1 : ((k : Int) != id) = false := by simpa using h1
        rw [if_neg (fun h => h.1 h1), Nat.zero_add] at hI
        have HI2 := hide hI
        clear hI h1
        go_wp2_with fail
        go_roundw
        case rel => exact ⟨k + 1, m, by omega, by omega, rfl, by go_num, HI2, trivial⟩
        case measure => simp [intOf]; omega
      · have z1 : ((k : Int) != id) = true := by simpa using h1
        by_cases h2 : p ≤ x
        · have z2 : decide (p ≤ x) = true := decide_eq_true h2
          rw [if_pos ⟨h1, h2⟩] at hI
          have HI2 : Hid (m + 1 + holdA id p (k + 1) (lg.drop (k + 1)) = C) := by show _ = _; omega
          clear hI h1
          go_wp2_with fail
          go_roundw
          case rel => exact ⟨k + 1, m + 1, by omega, by omega, by go_num, by go_num, HI2, trivial⟩
          case measure => simp [intOf]; omega
        · have z2 : decide (p ≤ x) = false := decide_eq_false h2
          rw [if_neg (fun h => h2 h.2), Nat.zero_add] at hI
          have HI2 := hide hI
          clear hI h1
          go_wp2_with fail
          go_roundw
          case rel => exact ⟨k + 1, m, by omega, by omega, rfl, by go_num, HI2, trivial⟩
          case measure => simp [intOf]; omega
    · obtain rfl : k = ng := by omega
      have hI := unhide HI
      rw [holdA_end id p lg k (by rw [unhide HNg]; exact Nat.le_refl _)] at hI
      obtain rfl : m = C := by omega
      clear hI HI
      go_wp2_with fail
      go_ret
      exact ⟨rfl, unhide B0⟩
end Go.Proofs.Ytpadpgjkpajfaaa
