/- What l11Accept answers. -/
import Derived.Test.YtmmnoepcklfonaaGreatDoorZG21
import Derived.Test.YtmmnoepcklfonaaGreatDoorZFvM
import Derived.Test.YtmmnoepcklfonaaGreatDoorZRwL
import Derived.Test.YtmmnoepcklfonaaGreatDoorZStrS
import Derived.Deep.Cut
namespace Go.Proofs.YtmmnoepcklfonaaGreatDoor
open Go.ChangeShapes Go.WideShapes Go.ChangeAt Go.RowKit
set_option linter.unusedVariables false
abbrev oAvP0 : Oper := { dst := some 34, op := .load 22 (.tmp 33), type := 22, pos := "l11_view.go:108", after := #[{ on := 0, ground := .data }], guard := none }
abbrev oAvP1 : Oper := { dst := some 41, op := .buildSlice 22 1 #[(0, .tmp 40)], type := 22, pos := "l11_view.go:108", after := #[{ on := 7, ground := .data }], guard := none }
abbrev oAvP2 : Oper := { dst := some 42, op := .call { callee := .builtin Go.Builtin.append, args := #[.tmp 34, .tmp 41], argTypes := #[22, 22] }, type := 22, pos := "l11_view.go:108", after := #[{ on := 1, ground := .data }, { on := 8, ground := .data }], guard := none }
abbrev oAvP3 : Oper := { dst := some 43, op := .fieldAddr 32 (.tmp 6) 3, type := 0, pos := "l11_view.go:108", after := #[{ on := 0, ground := .phase }, { on := 1, ground := .phase }, { on := 2, ground := .phase }, { on := 3, ground := .phase }, { on := 4, ground := .phase }, { on := 5, ground := .phase }, { on := 6, ground := .phase }, { on := 7, ground := .phase }, { on := 8, ground := .phase }, { on := 9, ground := .phase }], guard := none }
abbrev oAvP4 : Oper := { dst := none, op := .store 22 (.tmp 43) (.tmp 42), type := 0, pos := "l11_view.go:108", after := #[{ on := 10, ground := .data }, { on := 9, ground := .data }, { on := 9, ground := .chain }, { on := 0, ground := .phase }, { on := 1, ground := .phase }, { on := 2, ground := .phase }, { on := 3, ground := .phase }, { on := 4, ground := .phase }, { on := 5, ground := .phase }, { on := 6, ground := .phase }, { on := 7, ground := .phase }, { on := 8, ground := .phase }, { on := 9, ground := .phase }], guard := none }
/-- What l11Accept answers: a mirror whose rows can be read, a code. -/
def AccTo (nb vw vh : Int) (n : Nat) (c : Int) (L : List ByteArray) (w : World) (e : Ending) (w' : World) : Prop := (∃ aX cX, e = .returned (.tuple #[.agg #[.int .i64 nb, .int .i64 vw, .int .i64 vh, .slice aX n cX], .int .i64 c]) ∧ RowV w' aX (cS L)) ∧ Below w.heap.size w w'
/-- As AccTo, the rows its own. -/
def AccNew (nb vw vh : Int) (n : Nat) (c : Int) (L : List ByteArray) (w : World) (e : Ending) (w' : World) : Prop := (∃ aX cX, e = .returned (.tuple #[.agg #[.int .i64 nb, .int .i64 vw, .int .i64 vh, .slice aX n cX], .int .i64 c]) ∧ w'.ownsRow w.heap.size 9 1 (.slice aX n cX) n (cS L)) ∧ Below w.heap.size w w'
theorem AccNew.to {nb vw vh : Int} {n : Nat} {c : Int} {L : List ByteArray} {w : World} {e : Ending} {w' : World} (h : AccNew nb vw vh n c L w e w') : AccTo nb vw vh n c L w e w' := by
  obtain ⟨⟨aX, cX, he, ho⟩, hb⟩ := h
  exact ⟨⟨aX, cX, he, rowZ_at (base := w.heap.size) (e := 9) (z := 1) (n := n) (cap := cX) ho⟩, hb⟩
set_option maxHeartbeats 4000000 in
set_option maxRecDepth 100000 in
theorem sacc_late (nb vw vh : Int) (a : Option Addr) (cap n : Nat) (R : List ByteArray) (nbv frv : Int) (fuv : Bool) (vwv : Int) (H : Nat) (av : Option Addr) (cv nv : Nat) (l : List Rw) (hle : nbv ≤ nb) (w : World) (hr : RowV w a (cS R)) (hrv : RowV w av (cE l)) :
    Calls Tryz.prog 41 #[.agg #[.int .i64 nb, .int .i64 vw, .int .i64 vh, .slice a n cap], .agg #[.int .i64 nbv, .int .i64 frv, .bool fuv, .int .i64 vwv, .int .i64 (H : Int), .slice av nv cv]] w (AccTo nb vw vh n 15 (R) w) := by
  have B0 := hide (Go.Joins.below_alloc3 w (.cells #[.int .i64 nb, .int .i64 vw, .int .i64 vh, .slice a n cap] 32) (.cells #[.int .i64 nbv, .int .i64 frv, .bool fuv, .int .i64 vwv, .int .i64 (H : Int), .slice av nv cv] 40) (.cells #[.int .i64 0, .int .i64 0, .int .i64 0, .slice none 0 0] 32))
  have A0 := hide (((BF.new w #[.int .i64 nb, .int .i64 vw, .int .i64 vh, .slice a n cap] 32).alloc (.cells #[.int .i64 nbv, .int .i64 frv, .bool fuv, .int .i64 vwv, .int .i64 (H : Int), .slice av nv cv] 40)).alloc (.cells #[.int .i64 0, .int .i64 0, .int .i64 0, .slice none 0 0] 32))
  have V0 := hide ((BF.new (w.alloc (.cells #[.int .i64 nb, .int .i64 vw, .int .i64 vh, .slice a n cap] 32)) #[.int .i64 nbv, .int .i64 frv, .bool fuv, .int .i64 vwv, .int .i64 (H : Int), .slice av nv cv] 40).alloc (.cells #[.int .i64 0, .int .i64 0, .int .i64 0, .slice none 0 0] 32))
  have Z0 := hide (BF.new ((w.alloc (.cells #[.int .i64 nb, .int .i64 vw, .int .i64 vh, .slice a n cap] 32)).alloc (.cells #[.int .i64 nbv, .int .i64 frv, .bool fuv, .int .i64 vwv, .int .i64 (H : Int), .slice av nv cv] 40)) #[.int .i64 0, .int .i64 0, .int .i64 0, .slice none 0 0] 32)
  rw [show (w.alloc (.cells #[.int .i64 nb, .int .i64 vw, .int .i64 vh, .slice a n cap] 32)).heap.size = w.heap.size + 1 from by simp] at V0
  rw [show ((w.alloc (.cells #[.int .i64 nb, .int .i64 vw, .int .i64 vh, .slice a n cap] 32)).alloc (.cells #[.int .i64 nbv, .int .i64 frv, .bool fuv, .int .i64 vwv, .int .i64 (H : Int), .slice av nv cv] 40)).heap.size = w.heap.size + 1 + 1 from by simp] at Z0
  have HR := hide hr
  have HRV := hide hrv
  clear hr hrv
  go_enter Tryz.func41, Tryz.ntmps41
  go_wp2_with fail
  have hfin : ∀ W, Below w.heap.size w W → AccTo nb vw vh n 15 R w (.returned (.tuple #[.agg #[.int .i64 nb, .int .i64 vw, .int .i64 vh, .slice a n cap], .int .i64 15])) W := fun W h => ⟨⟨a, cap, rfl, (unhide HR).below h⟩, h⟩
  refine bodyPost_ret (v := .tuple #[.agg #[.int .i64 nb, .int .i64 vw, .int .i64 vh, .slice a n cap], .int .i64 15]) (by simp [results, Tryz.results41, go_sem]) rfl (hfin _ ?_)
  first
    | exact unhide B0
    | (have hl1 : w.heap.size ≤ (w.heap.size + 1 + 1) := by omega
       repeat refine Below.setCell ?_ (by exact hl1) _
       exact unhide B0)
    | exact Go.Joins.below_alloc3 w _ _ _
set_option maxHeartbeats 4000000 in
set_option maxRecDepth 100000 in
theorem sacc_view (nb vw vh : Int) (a : Option Addr) (cap n : Nat) (R : List ByteArray) (nbv frv : Int) (fuv : Bool) (vwv : Int) (H : Nat) (av : Option Addr) (cv nv : Nat) (l : List Rw) (hle : ¬ nbv ≤ nb) (hfu : fuv = false) (HG : Hid ((decide (frv = nb) && (decide (vwv = vw) && decide ((H : Int) = vh))) = false)) (w : World) (hr : RowV w a (cS R)) (hrv : RowV w av (cE l)) :
    Calls Tryz.prog 41 #[.agg #[.int .i64 nb, .int .i64 vw, .int .i64 vh, .slice a n cap], .agg #[.int .i64 nbv, .int .i64 frv, .bool fuv, .int .i64 vwv, .int .i64 (H : Int), .slice av nv cv]] w (AccTo nb vw vh n 19 (R) w) := by
  subst hfu
  have B0 := hide (Go.Joins.below_alloc3 w (.cells #[.int .i64 nb, .int .i64 vw, .int .i64 vh, .slice a n cap] 32) (.cells #[.int .i64 nbv, .int .i64 frv, .bool false, .int .i64 vwv, .int .i64 (H : Int), .slice av nv cv] 40) (.cells #[.int .i64 0, .int .i64 0, .int .i64 0, .slice none 0 0] 32))
  have A0 := hide (((BF.new w #[.int .i64 nb, .int .i64 vw, .int .i64 vh, .slice a n cap] 32).alloc (.cells #[.int .i64 nbv, .int .i64 frv, .bool false, .int .i64 vwv, .int .i64 (H : Int), .slice av nv cv] 40)).alloc (.cells #[.int .i64 0, .int .i64 0, .int .i64 0, .slice none 0 0] 32))
  have V0 := hide ((BF.new (w.alloc (.cells #[.int .i64 nb, .int .i64 vw, .int .i64 vh, .slice a n cap] 32)) #[.int .i64 nbv, .int .i64 frv, .bool false, .int .i64 vwv, .int .i64 (H : Int), .slice av nv cv] 40).alloc (.cells #[.int .i64 0, .int .i64 0, .int .i64 0, .slice none 0 0] 32))
  have Z0 := hide (BF.new ((w.alloc (.cells #[.int .i64 nb, .int .i64 vw, .int .i64 vh, .slice a n cap] 32)).alloc (.cells #[.int .i64 nbv, .int .i64 frv, .bool false, .int .i64 vwv, .int .i64 (H : Int), .slice av nv cv] 40)) #[.int .i64 0, .int .i64 0, .int .i64 0, .slice none 0 0] 32)
  rw [show (w.alloc (.cells #[.int .i64 nb, .int .i64 vw, .int .i64 vh, .slice a n cap] 32)).heap.size = w.heap.size + 1 from by simp] at V0
  rw [show ((w.alloc (.cells #[.int .i64 nb, .int .i64 vw, .int .i64 vh, .slice a n cap] 32)).alloc (.cells #[.int .i64 nbv, .int .i64 frv, .bool false, .int .i64 vwv, .int .i64 (H : Int), .slice av nv cv] 40)).heap.size = w.heap.size + 1 + 1 from by simp] at Z0
  have HR := hide hr
  have HRV := hide hrv
  clear hr hrv
  have hG := unhide HG
  clear HG
  by_cases h1 : frv = nb
  · by_cases h2 : vwv = vw
    · have h3 : ¬ (H : Int) = vh := fun h => by rw [decide_eq_true h1, decide_eq_true h2, decide_eq_true h] at hG; cases hG
      have h1' : (frv != nb) = false := by simp [h1]
      have h2' : (vwv != vw) = false := by simp [h2]
      have h3' : ((H : Int) != vh) = true := by simpa using h3
      clear hG h1 h2 h3
      go_enter Tryz.func41, Tryz.ntmps41
      go_wp2_with fail
      have hfin : ∀ W, Below w.heap.size w W → AccTo nb vw vh n 19 R w (.returned (.tuple #[.agg #[.int .i64 nb, .int .i64 vw, .int .i64 vh, .slice a n cap], .int .i64 19])) W := fun W h => ⟨⟨a, cap, rfl, (unhide HR).below h⟩, h⟩
      refine bodyPost_ret (v := .tuple #[.agg #[.int .i64 nb, .int .i64 vw, .int .i64 vh, .slice a n cap], .int .i64 19]) (by simp [results, Tryz.results41, go_sem]) rfl (hfin _ ?_)
      first
        | exact unhide B0
        | (have hl1 : w.heap.size ≤ (w.heap.size + 1 + 1) := by omega
           repeat refine Below.setCell ?_ (by exact hl1) _
           exact unhide B0)
        | exact Go.Joins.below_alloc3 w _ _ _
    · have h1' : (frv != nb) = false := by simp [h1]
      have h2' : (vwv != vw) = true := by simpa using h2
      clear hG h1 h2
      go_enter Tryz.func41, Tryz.ntmps41
      go_wp2_with fail
      have hfin : ∀ W, Below w.heap.size w W → AccTo nb vw vh n 19 R w (.returned (.tuple #[.agg #[.int .i64 nb, .int .i64 vw, .int .i64 vh, .slice a n cap], .int .i64 19])) W := fun W h => ⟨⟨a, cap, rfl, (unhide HR).below h⟩, h⟩
      refine bodyPost_ret (v := .tuple #[.agg #[.int .i64 nb, .int .i64 vw, .int .i64 vh, .slice a n cap], .int .i64 19]) (by simp [results, Tryz.results41, go_sem]) rfl (hfin _ ?_)
      first
        | exact unhide B0
        | (have hl1 : w.heap.size ≤ (w.heap.size + 1 + 1) := by omega
           repeat refine Below.setCell ?_ (by exact hl1) _
           exact unhide B0)
        | exact Go.Joins.below_alloc3 w _ _ _
  · have h1' : (frv != nb) = true := by simpa using h1
    clear hG h1
    go_enter Tryz.func41, Tryz.ntmps41
    go_wp2_with fail
    have hfin : ∀ W, Below w.heap.size w W → AccTo nb vw vh n 19 R w (.returned (.tuple #[.agg #[.int .i64 nb, .int .i64 vw, .int .i64 vh, .slice a n cap], .int .i64 19])) W := fun W h => ⟨⟨a, cap, rfl, (unhide HR).below h⟩, h⟩
    refine bodyPost_ret (v := .tuple #[.agg #[.int .i64 nb, .int .i64 vw, .int .i64 vh, .slice a n cap], .int .i64 19]) (by simp [results, Tryz.results41, go_sem]) rfl (hfin _ ?_)
    first
      | exact unhide B0
      | (have hl1 : w.heap.size ≤ (w.heap.size + 1 + 1) := by omega
         repeat refine Below.setCell ?_ (by exact hl1) _
         exact unhide B0)
      | exact Go.Joins.below_alloc3 w _ _ _
set_option maxHeartbeats 4000000 in
set_option maxRecDepth 100000 in
theorem sacc_fullN (nb vw vh : Int) (a : Option Addr) (cap n : Nat) (R : List ByteArray) (nbv frv : Int) (fuv : Bool) (vwv : Int) (H : Nat) (av : Option Addr) (cv nv : Nat) (l : List Rw) (HNV : Hid (l.length = nv)) (hnv : nv ≤ 10) (hle : ¬ nbv ≤ nb) (hfu : fuv = true) (w : World) (hr : RowV w a (cS R)) (hrv : RowV w av (cE l)) :
    Calls Tryz.prog 41 #[.agg #[.int .i64 nb, .int .i64 vw, .int .i64 vh, .slice a n cap], .agg #[.int .i64 nbv, .int .i64 frv, .bool fuv, .int .i64 vwv, .int .i64 (H : Int), .slice av nv cv]] w (AccNew nbv vwv (H : Int) nv 0 (celL l) w) := by
  subst hfu
  have B0 := hide (Go.Joins.below_alloc3 w (.cells #[.int .i64 nb, .int .i64 vw, .int .i64 vh, .slice a n cap] 32) (.cells #[.int .i64 nbv, .int .i64 frv, .bool true, .int .i64 vwv, .int .i64 (H : Int), .slice av nv cv] 40) (.cells #[.int .i64 0, .int .i64 0, .int .i64 0, .slice none 0 0] 32))
  have A0 := hide (((BF.new w #[.int .i64 nb, .int .i64 vw, .int .i64 vh, .slice a n cap] 32).alloc (.cells #[.int .i64 nbv, .int .i64 frv, .bool true, .int .i64 vwv, .int .i64 (H : Int), .slice av nv cv] 40)).alloc (.cells #[.int .i64 0, .int .i64 0, .int .i64 0, .slice none 0 0] 32))
  have V0 := hide ((BF.new (w.alloc (.cells #[.int .i64 nb, .int .i64 vw, .int .i64 vh, .slice a n cap] 32)) #[.int .i64 nbv, .int .i64 frv, .bool true, .int .i64 vwv, .int .i64 (H : Int), .slice av nv cv] 40).alloc (.cells #[.int .i64 0, .int .i64 0, .int .i64 0, .slice none 0 0] 32))
  have Z0 := hide (BF.new ((w.alloc (.cells #[.int .i64 nb, .int .i64 vw, .int .i64 vh, .slice a n cap] 32)).alloc (.cells #[.int .i64 nbv, .int .i64 frv, .bool true, .int .i64 vwv, .int .i64 (H : Int), .slice av nv cv] 40)) #[.int .i64 0, .int .i64 0, .int .i64 0, .slice none 0 0] 32)
  rw [show (w.alloc (.cells #[.int .i64 nb, .int .i64 vw, .int .i64 vh, .slice a n cap] 32)).heap.size = w.heap.size + 1 from by simp] at V0
  rw [show ((w.alloc (.cells #[.int .i64 nb, .int .i64 vw, .int .i64 vh, .slice a n cap] 32)).alloc (.cells #[.int .i64 nbv, .int .i64 frv, .bool true, .int .i64 vwv, .int .i64 (H : Int), .slice av nv cv] 40)).heap.size = w.heap.size + 1 + 1 from by simp] at Z0
  have HR := hide hr
  have HRV := hide hrv
  clear hr hrv
  obtain ⟨i0, hi, hz0, hz1, hz2⟩ := info_parts Tryz.infL9
  have B1 := hide (((unhide B0).alloc (unhide B0).size (.cells #[] 9)).alloc ((unhide B0).alloc (unhide B0).size (.cells #[] 9)).size (.cells #[.int .i64 nbv, .int .i64 vwv, .int .i64 (H : Int), .slice (some ⟨w.heap.size + 1 + 1 + 1, 0, none⟩) 0 0] 32))
  have V1 := hide (((unhide V0).alloc (.cells #[] 9)).alloc (.cells #[.int .i64 nbv, .int .i64 vwv, .int .i64 (H : Int), .slice (some ⟨w.heap.size + 1 + 1 + 1, 0, none⟩) 0 0] 32))
  have Z1 := hide (((unhide Z0).alloc (.cells #[] 9)).alloc (.cells #[.int .i64 nbv, .int .i64 vwv, .int .i64 (H : Int), .slice (some ⟨w.heap.size + 1 + 1 + 1, 0, none⟩) 0 0] 32))
  have P1 := hide (BF.new ((((w.alloc (.cells #[.int .i64 nb, .int .i64 vw, .int .i64 vh, .slice a n cap] 32)).alloc (.cells #[.int .i64 nbv, .int .i64 frv, .bool true, .int .i64 vwv, .int .i64 (H : Int), .slice av nv cv] 40)).alloc (.cells #[.int .i64 0, .int .i64 0, .int .i64 0, .slice none 0 0] 32)).alloc (.cells #[] 9)) #[.int .i64 nbv, .int .i64 vwv, .int .i64 (H : Int), .slice (some ⟨w.heap.size + 1 + 1 + 1, 0, none⟩) 0 0] 32)
  rw [show ((((w.alloc (.cells #[.int .i64 nb, .int .i64 vw, .int .i64 vh, .slice a n cap] 32)).alloc (.cells #[.int .i64 nbv, .int .i64 frv, .bool true, .int .i64 vwv, .int .i64 (H : Int), .slice av nv cv] 40)).alloc (.cells #[.int .i64 0, .int .i64 0, .int .i64 0, .slice none 0 0] 32)).alloc (.cells #[] 9)).heap.size = (w.heap.size + 1 + 1 + 1 + 1) from by simp] at P1
  have E1 := hide ((lit_atT (((w.alloc (.cells #[.int .i64 nb, .int .i64 vw, .int .i64 vh, .slice a n cap] 32)).alloc (.cells #[.int .i64 nbv, .int .i64 frv, .bool true, .int .i64 vwv, .int .i64 (H : Int), .slice av nv cv] 40)).alloc (.cells #[.int .i64 0, .int .i64 0, .int .i64 0, .slice none 0 0] 32)) (w.heap.size + 1 + 1 + 1) (w.heap.size + 1 + 1 + 1) 9 (by simp) (Nat.le_refl _)).alloc (.cells #[.int .i64 nbv, .int .i64 vwv, .int .i64 (H : Int), .slice (some ⟨w.heap.size + 1 + 1 + 1, 0, none⟩) 0 0] 32))
  have LP : Hid (w.heap.size ≤ w.heap.size) := Nat.le_refl _
  clear B0 V0 Z0 A0
  go_enter Tryz.func41, Tryz.ntmps41
  go_wp2_with fail
  go_loopw [7] (fun i wr => ∃ (k : Nat) (aV : Option Addr) (cV : Nat), k ≤ nv ∧ i = .int .i64 (k : Int) ∧ Hid (Below w.heap.size w wr) ∧ Hid (BF (w.heap.size + 1 + 1 + 1 + 1) #[.int .i64 nbv, .int .i64 vwv, .int .i64 (H : Int), .slice aV k cV] wr) ∧ Hid (wr.ownsRow (w.heap.size + 1 + 1 + 1) 9 1 (.slice aV k cV) k (cS (celL (l.take k)))) ∧ Hid (∀ j, (Value.slice aV k cV).ownBlock = some j → (w.heap.size + 1 + 1 + 1) ≤ j ∧ j ≠ (w.heap.size + 1 + 1 + 1 + 1)) ∧ Hid (BF (w.heap.size + 1) #[.int .i64 nbv, .int .i64 frv, .bool true, .int .i64 vwv, .int .i64 (H : Int), .slice av nv cv] wr) ∧ Hid (BF (w.heap.size + 1 + 1) #[.int .i64 0, .int .i64 0, .int .i64 0, .slice none 0 0] wr)) (fun i _ => nv - (intOf i).toNat)
  case atStart => exact ⟨0, _, _, by omega, rfl, B1, P1, E1, fun j hj => by have e : w.heap.size + 1 + 1 + 1 = j := Option.some.inj hj; omega, V1, Z1⟩
  case round =>
    clear B1 P1 E1 V1 Z1
    obtain ⟨k, aV, cV, hk, rfl, HB, HP, HE, HF, HV, HZ⟩ := hrel
    have kv := (unhide HV).S
    by_cases hlt : k < nv
    · have hlt' : (k : Int) < (nv : Int) := by omega
      have hkR : k < l.length := by rw [unhide HNV]; exact hlt
      obtain ⟨b1, off, ha, hblt, hc⟩ := (unhide HRV).at (by rw [cE_len]; omega)
      subst ha
      obtain ⟨-, x1⟩ := row_ent hc k hkR
      obtain ⟨d, ed⟩ : ∃ d, d = l[k].2 := ⟨_, rfl⟩
      rw [← ed] at x1
      have HCS : Hid (w.cell? ⟨b1, off + k * 2 + 1, none⟩ = some (.string d)) := x1
      have HSN : Hid (cS (celL (l.take (k + 1))) = cS (celL (l.take k)) ++ [.string d]) := by show _ = _; rw [celL_snoc l k hkR, cS_app, ed]; rfl
      clear hc x1 ed hkR
      go_wp2_with fail
      clear kv
      refine wp_region_held_drew (S := (fun w' => (∀ o, w'.cell? ⟨(w.heap.size + 1), o, none⟩ = (#[.int .i64 nbv, .int .i64 frv, .bool true, .int .i64 vwv, .int .i64 (H : Int), .slice (some ⟨b1, off, none⟩) nv cv] : Array Value)[o]?) ∧ w'.cell? ⟨b1, off + k * 2 + 1, none⟩ = some (.string d))) (by kernel_rfl) (And.intro (unhide HV).S (((unhide HB).cell (p := ⟨b1, off + k * 2 + 1, none⟩) hblt).trans (unhide HCS))) (fun hHeld => ?_)
      have B5 := hide ((unhide HB).drew)
      have P5 := hide ((unhide HP).drew)
      have E5 : Hid (wr.drew.ownsRow (w.heap.size + 1 + 1 + 1) 9 1 (.slice aV k cV) k (cS (celL (l.take k)))) := unhide HE
      have V5 := hide ((unhide HV).drew)
      have Z5 := hide ((unhide HZ).drew)
      clear HB HP HE HV HZ
      generalize wr.drew = w5q at B5 P5 E5 V5 Z5 hHeld ⊢
      refine wtk (i := 0) (oi := { dst := some 33, op := .fieldAddr 32 (.tmp 6) 3, type := 0, pos := "l11_view.go:108", after := #[], guard := none }) (v := ?_) rfl (Or.inl ⟨by rfl, ?_⟩) (by assumption) ?_
      rotate_left 1
      · (intro w' hSw; (try dsimp only at hSw); go_simp; try with_reducible rfl)
      try simp only [Act.put, qqA, qqB, qqC]
      refine wtk (i := 2) (oi := { dst := some 35, op := .fieldAddr 40 (.tmp 3) 5, type := 0, pos := "l11_view.go:108", after := #[], guard := none }) (v := ?_) rfl (Or.inl ⟨by rfl, ?_⟩) (by assumption) ?_
      rotate_left 1
      · (intro w' hSw; (try dsimp only at hSw); go_simp; try with_reducible rfl)
      try simp only [Act.put, qqA, qqB, qqC]
      refine wtk (i := 3) (oi := { dst := some 36, op := .load 38 (.tmp 35), type := 38, pos := "l11_view.go:108", after := #[{ on := 2, ground := .data }], guard := none }) (v := ?_) rfl (Or.inl ⟨by rfl, ?_⟩) (by assumption) ?_
      rotate_left 1
      · (intro w' hSw; (try dsimp only at hSw); go_simp; try with_reducible rfl)
      try simp only [Act.put, qqA, qqB, qqC]
      refine wtk (i := 4) (oi := { dst := some 37, op := .move (.tmp 7), type := 3, pos := "l11_view.go:108", after := #[], guard := none }) (v := ?_) rfl (Or.inl ⟨by rfl, ?_⟩) (by assumption) ?_
      rotate_left 1
      · (intro w' hSw; (try dsimp only at hSw); go_simp; try with_reducible rfl)
      try simp only [Act.put, qqA, qqB, qqC]
      refine wtk (i := 5) (oi := { dst := some 38, op := .indexAddr 38 (.tmp 36) (.tmp 37), type := 0, pos := "l11_view.go:108", after := #[{ on := 3, ground := .data }, { on := 4, ground := .data }], guard := none }) (v := ?_) rfl (Or.inl ⟨by rfl, ?_⟩) (by assumption) ?_
      rotate_left 1
      · (intro w' hSw; (try dsimp only at hSw); go_simp; try with_reducible rfl)
      try simp only [Act.put, qqA, qqB, qqC]
      refine wtk (i := 6) (oi := { dst := some 39, op := .fieldAddr 71 (.tmp 38) 1, type := 0, pos := "l11_view.go:108", after := #[{ on := 5, ground := .data }], guard := none }) (v := ?_) rfl (Or.inl ⟨by rfl, ?_⟩) (by assumption) ?_
      rotate_left 1
      · (intro w' hSw; (try dsimp only at hSw); go_simp; try with_reducible rfl)
      try simp only [Act.put, qqA, qqB, qqC]
      refine wtk (i := 7) (oi := { dst := some 40, op := .load 9 (.tmp 39), type := 9, pos := "l11_view.go:108", after := #[{ on := 6, ground := .data }], guard := none }) (v := ?_) rfl (Or.inl ⟨by rfl, ?_⟩) (by assumption) ?_
      rotate_left 1
      · (intro w' hSw; (try dsimp only at hSw); go_simp; try with_reducible rfl)
      try simp only [Act.put, qqA, qqB, qqC]
      refine wpAnyH_ready (rs := [1, 8]) (by kernel_rfl) (by simp) ?_
      refine AllReadyH.cons (o := oAvP0) rfl (fun K hK => ?_) (AllReadyH.cons (o := oAvP1) rfl (fun K hK => ?_) AllReadyH.nil)
      · skip
        have kp := (unhide P5).S
        go_simp
        refine hK.out _ _ ?_ (fun hHeldL => ?_)
        · exact And.intro (unhide V5).S (((unhide B5).cell (p := ⟨b1, off + k * 2 + 1, none⟩) hblt).trans (unhide HCS))
        clear hK K kp
        try simp only [Act.put, qqA, qqB, qqC]
        refine wpAnyH_ready (rs := [8]) (by kernel_rfl) (by simp) ?_
        refine AllReadyH.cons (o := oAvP1) rfl (fun K hK => ?_) AllReadyH.nil
        obtain ⟨G, hG⟩ : ∃ G, G = w5q.heap.size := ⟨_, rfl⟩
        have hb6 : Below w5q.heap.size w5q (w5q.alloc (.cells #[.string d] 9)) := Go.Joins.below_alloc1 w5q (.cells #[.string d] 9)
        have R6 := hide (BF.new w5q #[.string d] 9)
        have P6 := hide ((unhide P5).below hb6)
        have B6 := hide ((unhide B5).trans (hb6.mono (unhide B5).size))
        have E6 := hide (((heldZ_of (unhide E5)).below hb6 (Nat.le_refl _)).own)
        have V6 := hide ((unhide V5).below hb6)
        have Z6 := hide ((unhide Z5).below hb6)
        have z6 : Hid ((w.heap.size + 1 + 1 + 1 + 1) < (w5q.alloc (.cells #[.string d] 9)).heap.size) := (unhide P6).lt
        rw [← hG] at R6
        go_simp
        refine hK.out _ _ ?_ (fun hHeldB => ?_)
        · exact And.intro (unhide V6).S (((unhide B6).cell (p := ⟨b1, off + k * 2 + 1, none⟩) hblt).trans (unhide HCS))
        clear hK K
        try simp only [Act.put, qqA, qqB, qqC]
        rw [← hG]
        clear hb6 hG
        generalize w5q.alloc (.cells #[.string d] 9) = w6 at R6 P6 B6 E6 V6 Z6 z6 hHeldB ⊢
        refine wpAnyH_ready (rs := [9]) (by kernel_rfl) (by simp) ?_
        refine AllReadyH.cons (o := oAvP2) rfl (fun K hK => ?_) AllReadyH.nil
        refine step_append_lies w6 rfl (.tmp 34) (.tmp 41) 22 rfl (w.heap.size + 1 + 1 + 1) 9 i0 (.string ⟨#[]⟩) 1 16 Tryz.underlying22 hi hz0 hz1 hz2 rfl (by decide) (.slice aV k cV) k (cS (celL (l.take k))) rfl (unhide E6) ⟨G, 0, none⟩ 1 1 [.string d] rfl rfl (by intro j u hj; have e := (unhide R6).S j; rw [show (⟨G, 0, none⟩ : Addr).add j = ⟨G, j, none⟩ from (by unfold Addr.add; split <;> simp_all)]; rw [e]; simpa using hj) (by intro u hu; simp at hu; subst hu; rfl) (by decide) (by unfold maxLen; omega) (by omega) (by have := unhide z6; have := unhide LP; omega) _ rfl ?_
        intro g7 c7 w7 ho7 hg7 hat7 hlt7
        have P7 := hide ((unhide P6).grown hg7 (fun h => (unhide HF _ h).2 rfl))
        have B7 := hide ((unhide B6).grown hg7 (unhide B6).size (fun j hj => by have := (unhide HF j hj).1; have := unhide LP; omega))
        have V7 := hide ((unhide V6).grown hg7 (fun h => by have := (unhide HF _ h).1; have := unhide LP; omega))
        have Z7 := hide ((unhide Z6).grown hg7 (fun h => by have := (unhide HF _ h).1; have := unhide LP; omega))
        have F7 : Hid ((w.heap.size + 1 + 1 + 1) ≤ g7 ∧ g7 ≠ (w.heap.size + 1 + 1 + 1 + 1)) := by
          show _ ∧ _
          rcases hat7 with h | h
          · exact unhide HF _ h
          · have := unhide z6; have := unhide LP; omega
        have E7 : Hid (w7.ownsRow (w.heap.size + 1 + 1 + 1) 9 1 (.slice (some ⟨g7, 0, none⟩) (k + 1) c7) (k + 1) (cS (celL (l.take (k + 1))))) := by show World.ownsRow _ _ _ _ _ _ _; rw [unhide HSN]; exact ho7
        clear ho7 hg7 hat7 hlt7 P6 B6 E6 V6 Z6 R6 z6
        refine hK.out _ _ ?_ (fun hHeld9 => ?_)
        · exact And.intro (unhide V7).S (((unhide B7).cell (p := ⟨b1, off + k * 2 + 1, none⟩) hblt).trans (unhide HCS))
        clear hK K
        try simp only [Act.put, qqA, qqB, qqC]
        refine wtk (i := 10) (oi := oAvP3) (v := ?_) rfl (Or.inl ⟨by rfl, ?_⟩) (by assumption) ?_
        rotate_left 1
        · (intro w' hSw; (try dsimp only at hSw); go_simp; try with_reducible rfl)
        try simp only [Act.put, qqA, qqB, qqC]
        refine wpAnyH_ready (rs := [11]) (by kernel_rfl) (by simp) ?_
        refine AllReadyH.cons (o := oAvP4) rfl (fun K hK => ?_) AllReadyH.nil
        have kp := (unhide P7).S
        have kpf := (unhide P7).F
        obtain ⟨w8, hw8⟩ : ∃ w8, w8 = w7.setCell ⟨(w.heap.size + 1 + 1 + 1 + 1), 3, none⟩ (.slice (some ⟨g7, 0, none⟩) (k + 1) c7) := ⟨_, rfl⟩
        have P8 : Hid (BF (w.heap.size + 1 + 1 + 1 + 1) #[.int .i64 nbv, .int .i64 vwv, .int .i64 (H : Int), .slice (some ⟨g7, 0, none⟩) (k + 1) c7] w8) := by rw [hw8]; exact (unhide P7).set 3 (by simp) _
        have B8 : Hid (Below w.heap.size w w8) := by rw [hw8]; exact (unhide B7).setCell (p := ⟨(w.heap.size + 1 + 1 + 1 + 1), 3, none⟩) (by show w.heap.size ≤ (w.heap.size + 1 + 1 + 1 + 1); have := unhide LP; omega) _
        have E8 : Hid (w8.ownsRow (w.heap.size + 1 + 1 + 1) 9 1 (.slice (some ⟨g7, 0, none⟩) (k + 1) c7) (k + 1) (cS (celL (l.take (k + 1))))) := by rw [hw8]; exact own_keepBR (unhide E7) (Below.heap_setCell _ _ _ _ (unhide F7).2)
        have V8 : Hid (BF (w.heap.size + 1) #[.int .i64 nbv, .int .i64 frv, .bool true, .int .i64 vwv, .int .i64 (H : Int), .slice (some ⟨b1, off, none⟩) nv cv] w8) := by rw [hw8]; exact (unhide V7).far _ _ (by show (w.heap.size + 1 + 1 + 1 + 1) ≠ (w.heap.size + 1); have := unhide LP; omega)
        have Z8 : Hid (BF (w.heap.size + 1 + 1) #[.int .i64 0, .int .i64 0, .int .i64 0, .slice none 0 0] w8) := by rw [hw8]; exact (unhide Z7).far _ _ (by show (w.heap.size + 1 + 1 + 1 + 1) ≠ (w.heap.size + 1 + 1); have := unhide LP; omega)
        have F8 : Hid (∀ j, (Value.slice (some ⟨g7, 0, none⟩) (k + 1) c7).ownBlock = some j → (w.heap.size + 1 + 1 + 1) ≤ j ∧ j ≠ (w.heap.size + 1 + 1 + 1 + 1)) := fun j hj => by have e : g7 = j := Option.some.inj hj; subst e; exact unhide F7
        go_simp
        rw [← hw8]
        refine hK.out _ _ ?_ (fun hHeld11 => ?_)
        · exact And.intro (unhide V8).S (((unhide B8).cell (p := ⟨b1, off + k * 2 + 1, none⟩) hblt).trans (unhide HCS))
        clear hK K
        try simp only [Act.put, qqA, qqB, qqC]
        refine wpAnyH_done (by kernel_rfl) ?_ _
        clear kp kpf hw8 P7 B7 E7 F7 V7 Z7
        go_wp2_with fail
        go_roundw
        case rel => exact ⟨k + 1, _, _, by omega, by go_num, B8, P8, E8, F8, V8, Z8⟩
        case measure => simp [intOf]; omega
      · skip
        obtain ⟨G, hG⟩ : ∃ G, G = w5q.heap.size := ⟨_, rfl⟩
        have hb6 : Below w5q.heap.size w5q (w5q.alloc (.cells #[.string d] 9)) := Go.Joins.below_alloc1 w5q (.cells #[.string d] 9)
        have R6 := hide (BF.new w5q #[.string d] 9)
        have P6 := hide ((unhide P5).below hb6)
        have B6 := hide ((unhide B5).trans (hb6.mono (unhide B5).size))
        have E6 := hide (((heldZ_of (unhide E5)).below hb6 (Nat.le_refl _)).own)
        have V6 := hide ((unhide V5).below hb6)
        have Z6 := hide ((unhide Z5).below hb6)
        have z6 : Hid ((w.heap.size + 1 + 1 + 1 + 1) < (w5q.alloc (.cells #[.string d] 9)).heap.size) := (unhide P6).lt
        rw [← hG] at R6
        go_simp
        refine hK.out _ _ ?_ (fun hHeldB => ?_)
        · exact And.intro (unhide V6).S (((unhide B6).cell (p := ⟨b1, off + k * 2 + 1, none⟩) hblt).trans (unhide HCS))
        clear hK K
        try simp only [Act.put, qqA, qqB, qqC]
        rw [← hG]
        clear hb6 hG
        generalize w5q.alloc (.cells #[.string d] 9) = w6 at R6 P6 B6 E6 V6 Z6 z6 hHeldB ⊢
        refine wpAnyH_ready (rs := [1]) (by kernel_rfl) (by simp) ?_
        refine AllReadyH.cons (o := oAvP0) rfl (fun K hK => ?_) AllReadyH.nil
        have kp := (unhide P6).S
        go_simp
        refine hK.out _ _ ?_ (fun hHeldL => ?_)
        · exact And.intro (unhide V6).S (((unhide B6).cell (p := ⟨b1, off + k * 2 + 1, none⟩) hblt).trans (unhide HCS))
        clear hK K kp
        try simp only [Act.put, qqA, qqB, qqC]
        refine wpAnyH_ready (rs := [9]) (by kernel_rfl) (by simp) ?_
        refine AllReadyH.cons (o := oAvP2) rfl (fun K hK => ?_) AllReadyH.nil
        refine step_append_lies w6 rfl (.tmp 34) (.tmp 41) 22 rfl (w.heap.size + 1 + 1 + 1) 9 i0 (.string ⟨#[]⟩) 1 16 Tryz.underlying22 hi hz0 hz1 hz2 rfl (by decide) (.slice aV k cV) k (cS (celL (l.take k))) rfl (unhide E6) ⟨G, 0, none⟩ 1 1 [.string d] rfl rfl (by intro j u hj; have e := (unhide R6).S j; rw [show (⟨G, 0, none⟩ : Addr).add j = ⟨G, j, none⟩ from (by unfold Addr.add; split <;> simp_all)]; rw [e]; simpa using hj) (by intro u hu; simp at hu; subst hu; rfl) (by decide) (by unfold maxLen; omega) (by omega) (by have := unhide z6; have := unhide LP; omega) _ rfl ?_
        intro g7 c7 w7 ho7 hg7 hat7 hlt7
        have P7 := hide ((unhide P6).grown hg7 (fun h => (unhide HF _ h).2 rfl))
        have B7 := hide ((unhide B6).grown hg7 (unhide B6).size (fun j hj => by have := (unhide HF j hj).1; have := unhide LP; omega))
        have V7 := hide ((unhide V6).grown hg7 (fun h => by have := (unhide HF _ h).1; have := unhide LP; omega))
        have Z7 := hide ((unhide Z6).grown hg7 (fun h => by have := (unhide HF _ h).1; have := unhide LP; omega))
        have F7 : Hid ((w.heap.size + 1 + 1 + 1) ≤ g7 ∧ g7 ≠ (w.heap.size + 1 + 1 + 1 + 1)) := by
          show _ ∧ _
          rcases hat7 with h | h
          · exact unhide HF _ h
          · have := unhide z6; have := unhide LP; omega
        have E7 : Hid (w7.ownsRow (w.heap.size + 1 + 1 + 1) 9 1 (.slice (some ⟨g7, 0, none⟩) (k + 1) c7) (k + 1) (cS (celL (l.take (k + 1))))) := by show World.ownsRow _ _ _ _ _ _ _; rw [unhide HSN]; exact ho7
        clear ho7 hg7 hat7 hlt7 P6 B6 E6 V6 Z6 R6 z6
        refine hK.out _ _ ?_ (fun hHeld9 => ?_)
        · exact And.intro (unhide V7).S (((unhide B7).cell (p := ⟨b1, off + k * 2 + 1, none⟩) hblt).trans (unhide HCS))
        clear hK K
        try simp only [Act.put, qqA, qqB, qqC]
        refine wtk (i := 10) (oi := oAvP3) (v := ?_) rfl (Or.inl ⟨by rfl, ?_⟩) (by assumption) ?_
        rotate_left 1
        · (intro w' hSw; (try dsimp only at hSw); go_simp; try with_reducible rfl)
        try simp only [Act.put, qqA, qqB, qqC]
        refine wpAnyH_ready (rs := [11]) (by kernel_rfl) (by simp) ?_
        refine AllReadyH.cons (o := oAvP4) rfl (fun K hK => ?_) AllReadyH.nil
        have kp := (unhide P7).S
        have kpf := (unhide P7).F
        obtain ⟨w8, hw8⟩ : ∃ w8, w8 = w7.setCell ⟨(w.heap.size + 1 + 1 + 1 + 1), 3, none⟩ (.slice (some ⟨g7, 0, none⟩) (k + 1) c7) := ⟨_, rfl⟩
        have P8 : Hid (BF (w.heap.size + 1 + 1 + 1 + 1) #[.int .i64 nbv, .int .i64 vwv, .int .i64 (H : Int), .slice (some ⟨g7, 0, none⟩) (k + 1) c7] w8) := by rw [hw8]; exact (unhide P7).set 3 (by simp) _
        have B8 : Hid (Below w.heap.size w w8) := by rw [hw8]; exact (unhide B7).setCell (p := ⟨(w.heap.size + 1 + 1 + 1 + 1), 3, none⟩) (by show w.heap.size ≤ (w.heap.size + 1 + 1 + 1 + 1); have := unhide LP; omega) _
        have E8 : Hid (w8.ownsRow (w.heap.size + 1 + 1 + 1) 9 1 (.slice (some ⟨g7, 0, none⟩) (k + 1) c7) (k + 1) (cS (celL (l.take (k + 1))))) := by rw [hw8]; exact own_keepBR (unhide E7) (Below.heap_setCell _ _ _ _ (unhide F7).2)
        have V8 : Hid (BF (w.heap.size + 1) #[.int .i64 nbv, .int .i64 frv, .bool true, .int .i64 vwv, .int .i64 (H : Int), .slice (some ⟨b1, off, none⟩) nv cv] w8) := by rw [hw8]; exact (unhide V7).far _ _ (by show (w.heap.size + 1 + 1 + 1 + 1) ≠ (w.heap.size + 1); have := unhide LP; omega)
        have Z8 : Hid (BF (w.heap.size + 1 + 1) #[.int .i64 0, .int .i64 0, .int .i64 0, .slice none 0 0] w8) := by rw [hw8]; exact (unhide Z7).far _ _ (by show (w.heap.size + 1 + 1 + 1 + 1) ≠ (w.heap.size + 1 + 1); have := unhide LP; omega)
        have F8 : Hid (∀ j, (Value.slice (some ⟨g7, 0, none⟩) (k + 1) c7).ownBlock = some j → (w.heap.size + 1 + 1 + 1) ≤ j ∧ j ≠ (w.heap.size + 1 + 1 + 1 + 1)) := fun j hj => by have e : g7 = j := Option.some.inj hj; subst e; exact unhide F7
        go_simp
        rw [← hw8]
        refine hK.out _ _ ?_ (fun hHeld11 => ?_)
        · exact And.intro (unhide V8).S (((unhide B8).cell (p := ⟨b1, off + k * 2 + 1, none⟩) hblt).trans (unhide HCS))
        clear hK K
        try simp only [Act.put, qqA, qqB, qqC]
        refine wpAnyH_done (by kernel_rfl) ?_ _
        clear kp kpf hw8 P7 B7 E7 F7 V7 Z7
        go_wp2_with fail
        go_roundw
        case rel => exact ⟨k + 1, _, _, by omega, by go_num, B8, P8, E8, F8, V8, Z8⟩
        case measure => simp [intOf]; omega
    · obtain rfl : k = nv := by omega
      have kp := (unhide HP).S
      have kz := (unhide HZ).S
      have kf := (unhide HZ).F
      go_wp2_with fail
      refine bodyPost_ret (v := .tuple #[.agg #[.int .i64 nbv, .int .i64 vwv, .int .i64 (H : Int), .slice aV k cV], .int .i64 0]) (by simp [results, Tryz.results41, go_sem, kz]) rfl ⟨⟨aV, cV, rfl, ?_⟩, ?_⟩
      · have h := unhide HE
        rw [List.take_of_length_le (by have := unhide HNV; omega)] at h
        refine Go.Joins.ownsRow_le (base := (w.heap.size + 1 + 1 + 1)) ?_ (by omega)
        have hl1 : (w.heap.size + 1 + 1) < (w.heap.size + 1 + 1 + 1) := by omega
        repeat refine ownsRow_setCell_below ?_ (by exact hl1) _
        exact h
      · have hl1 : w.heap.size ≤ (w.heap.size + 1 + 1) := by omega
        repeat refine Below.setCell ?_ (by exact hl1) _
        exact unhide HB
set_option maxHeartbeats 4000000 in
set_option maxRecDepth 100000 in
theorem sacc_diffN (nb vw vh : Int) (a : Option Addr) (cap n : Nat) (R : List ByteArray) (nbv frv : Int) (fuv : Bool) (vwv : Int) (H : Nat) (av : Option Addr) (cv nv : Nat) (l : List Rw) (HN : Hid (R.length = n)) (HNH : Hid (n = H)) (hH1 : 0 < H) (hH : H ≤ 10) (HNV : Hid (l.length = nv)) (hnv : nv ≤ 10) (hle : ¬ nbv ≤ nb) (hfu : fuv = false) (hfr : frv = nb) (hvw : vwv = vw) (hvh : (H : Int) = vh) (HYY : Hid (∀ k (h : k < l.length), 0 ≤ l[k].1 ∧ l[k].1 < (H : Int))) (w : World) (hr : RowV w a (cS R)) (hrv : RowV w av (cE l)) :
    Calls Tryz.prog 41 #[.agg #[.int .i64 nb, .int .i64 vw, .int .i64 vh, .slice a n cap], .agg #[.int .i64 nbv, .int .i64 frv, .bool fuv, .int .i64 vwv, .int .i64 (H : Int), .slice av nv cv]] w (AccNew nbv vw vh n 0 (setsL R l nv) w) := by
  subst hfu
  have B0 := hide (Go.Joins.below_alloc3 w (.cells #[.int .i64 nb, .int .i64 vw, .int .i64 vh, .slice a n cap] 32) (.cells #[.int .i64 nbv, .int .i64 frv, .bool false, .int .i64 vwv, .int .i64 (H : Int), .slice av nv cv] 40) (.cells #[.int .i64 0, .int .i64 0, .int .i64 0, .slice none 0 0] 32))
  have A0 := hide (((BF.new w #[.int .i64 nb, .int .i64 vw, .int .i64 vh, .slice a n cap] 32).alloc (.cells #[.int .i64 nbv, .int .i64 frv, .bool false, .int .i64 vwv, .int .i64 (H : Int), .slice av nv cv] 40)).alloc (.cells #[.int .i64 0, .int .i64 0, .int .i64 0, .slice none 0 0] 32))
  have V0 := hide ((BF.new (w.alloc (.cells #[.int .i64 nb, .int .i64 vw, .int .i64 vh, .slice a n cap] 32)) #[.int .i64 nbv, .int .i64 frv, .bool false, .int .i64 vwv, .int .i64 (H : Int), .slice av nv cv] 40).alloc (.cells #[.int .i64 0, .int .i64 0, .int .i64 0, .slice none 0 0] 32))
  have Z0 := hide (BF.new ((w.alloc (.cells #[.int .i64 nb, .int .i64 vw, .int .i64 vh, .slice a n cap] 32)).alloc (.cells #[.int .i64 nbv, .int .i64 frv, .bool false, .int .i64 vwv, .int .i64 (H : Int), .slice av nv cv] 40)) #[.int .i64 0, .int .i64 0, .int .i64 0, .slice none 0 0] 32)
  rw [show (w.alloc (.cells #[.int .i64 nb, .int .i64 vw, .int .i64 vh, .slice a n cap] 32)).heap.size = w.heap.size + 1 from by simp] at V0
  rw [show ((w.alloc (.cells #[.int .i64 nb, .int .i64 vw, .int .i64 vh, .slice a n cap] 32)).alloc (.cells #[.int .i64 nbv, .int .i64 frv, .bool false, .int .i64 vwv, .int .i64 (H : Int), .slice av nv cv] 40)).heap.size = w.heap.size + 1 + 1 from by simp] at Z0
  have HR := hide hr
  have HRV := hide hrv
  clear hr hrv
  have hn6 : n ≤ 1048576 := by rw [unhide HNH]; omega
  have hne1 : (frv != nb) = false := by simp [hfr]
  have hne2 : (vwv != vw) = false := by simp [hvw]
  have hne3 : ((H : Int) != vh) = false := by simp [hvh]
  clear hvh hfr hvw
  go_enter Tryz.func41, Tryz.ntmps41
  go_upto_region 13 with (go_at_call 42; refine (smown nb vw vh a cap n R HN hn6 _ ((unhide HR).below (unhide B0))).mono ?_; rintro e w6 ⟨v6, rfl, ho6, hb6⟩; obtain ⟨a6, c6, rfl, -⟩ := own_rowV ho6; have B6 := hide ((unhide B0).trans (hb6.mono (unhide B0).size)); have V6 := hide ((unhide V0).below hb6); have Z6 := hide ((unhide Z0).below hb6); have O6 := hide (Go.Joins.ownsRow_le ho6 (show (w.heap.size + 3) ≤ _ from (unhide Z0).lt)); clear hb6 ho6)
  rcases (unhide O6).2 with ⟨h0, h1⟩ | ⟨g, cq, cur, hvq, hbg, -⟩
  · have h2 : n = 0 := by injection h0
    have := unhide HNH
    omega
  obtain ⟨rfl, -⟩ : a6 = some ⟨g, 0, none⟩ ∧ c6 = cq := by injection hvq with e1 e2 e3; exact ⟨e1, e3⟩
  have HG3 : Hid (w.heap.size + 3 ≤ g) := hbg
  have hgl : g < w6.heap.size := ((unhide O6).lt g rfl).2
  obtain ⟨P, hP⟩ : ∃ P, P = w6.heap.size := ⟨_, rfl⟩
  have HGP : Hid (g ≠ P) := by show _ ≠ _; omega
  have HPW : Hid (w.heap.size + 3 ≤ P) := by show _ ≤ _; omega
  have B7 := hide ((unhide B6).alloc (unhide B6).size (.cells #[.int .i64 nb, .int .i64 vw, .int .i64 vh, .slice (some ⟨g, 0, none⟩) n c6] 32))
  have V7 := hide ((unhide V6).alloc (.cells #[.int .i64 nb, .int .i64 vw, .int .i64 vh, .slice (some ⟨g, 0, none⟩) n c6] 32))
  have Z7 := hide ((unhide Z6).alloc (.cells #[.int .i64 nb, .int .i64 vw, .int .i64 vh, .slice (some ⟨g, 0, none⟩) n c6] 32))
  have P7 := hide (BF.new w6 #[.int .i64 nb, .int .i64 vw, .int .i64 vh, .slice (some ⟨g, 0, none⟩) n c6] 32)
  have E7 : Hid ((w6.alloc (.cells #[.int .i64 nb, .int .i64 vw, .int .i64 vh, .slice (some ⟨g, 0, none⟩) n c6] 32)).ownsRow (w.heap.size + 3) 9 1 (.slice (some ⟨g, 0, none⟩) n c6) n (cS (setsL R l 0))) := (unhide O6).alloc _
  rw [← hP] at P7
  try rw [← hP]
  generalize w6.alloc (.cells #[.int .i64 nb, .int .i64 vw, .int .i64 vh, .slice (some ⟨g, 0, none⟩) n c6] 32) = w7 at B7 V7 Z7 P7 E7 ⊢
  have kp := (unhide P7).S
  have kpf := (unhide P7).F
  have kv := (unhide V7).S
  have P8 := hide ((unhide P7).set 0 (by simp) (.int .i64 nbv))
  have B8 := hide ((unhide B7).setCell (p := ⟨P, 0, none⟩) (by show w.heap.size ≤ P; have := unhide HPW; omega) (.int .i64 nbv))
  have V8 := hide ((unhide V7).far ⟨P, 0, none⟩ (.int .i64 nbv) (by show P ≠ _; have := unhide HPW; omega))
  have Z8 := hide ((unhide Z7).far ⟨P, 0, none⟩ (.int .i64 nbv) (by show P ≠ _; have := unhide HPW; omega))
  have E8 := hide (own_keepBR (unhide E7) (Below.heap_setCell w7 ⟨P, 0, none⟩ (.int .i64 nbv) g (unhide HGP)))
  clear hP hgl B6 V6 Z6 O6 A0 B0 V0 Z0 hbg hvq
  go_upto_region 14 with fail
  generalize w7.setCell ⟨P, 0, none⟩ (.int .i64 nbv) = w8 at B8 V8 Z8 P8 E8 ⊢
  have P9 : Hid (BF P #[.int .i64 nbv, .int .i64 vw, .int .i64 vh, .slice (some ⟨g, 0, none⟩) n c6] w8) := unhide P8
  clear kp kpf kv B7 V7 Z7 P7 E7 P8
  go_wp2_with fail
  go_loopw [9] (fun i wr => ∃ k : Nat, k ≤ nv ∧ i = .int .i64 (k : Int) ∧ Hid (Below w.heap.size w wr) ∧ Hid (BF (w.heap.size + 1) #[.int .i64 nbv, .int .i64 frv, .bool false, .int .i64 vwv, .int .i64 (H : Int), .slice av nv cv] wr) ∧ Hid (BF (w.heap.size + 1 + 1) #[.int .i64 0, .int .i64 0, .int .i64 0, .slice none 0 0] wr) ∧ Hid (BF P #[.int .i64 nbv, .int .i64 vw, .int .i64 vh, .slice (some ⟨g, 0, none⟩) n c6] wr) ∧ Hid (wr.ownsRow (w.heap.size + 3) 9 1 (.slice (some ⟨g, 0, none⟩) n c6) n (cS (setsL R l k)))) (fun i _ => nv - (intOf i).toNat)
  case atStart => exact ⟨0, by omega, rfl, B8, V8, Z8, P9, E8⟩
  case round =>
    clear B8 V8 Z8 P9 E8
    obtain ⟨k, hk, rfl, HB, HV, HZ, HP, HE⟩ := hrel
    have kv := (unhide HV).S
    by_cases hlt : k < nv
    · have hlt' : (k : Int) < (nv : Int) := by omega
      have hkR : k < l.length := by rw [unhide HNV]; exact hlt
      obtain ⟨b1, off, ha, hblt, hc⟩ := (unhide HRV).at (by rw [cE_len]; omega)
      subst ha
      obtain ⟨x0, x1⟩ := row_ent hc k hkR
      obtain ⟨h0, h9⟩ := unhide HYY k hkR
      obtain ⟨Y, hY⟩ : ∃ Y : Nat, Y = l[k].1.toNat := ⟨_, rfl⟩
      have eY : l[k].1 = (Y : Int) := by omega
      obtain ⟨d, ed⟩ : ∃ d, d = l[k].2 := ⟨_, rfl⟩
      rw [eY] at x0
      rw [← ed] at x1
      have HX0 := hide x0
      have HX1 := hide x1
      have hYn : Y < n := by rw [unhide HNH]; omega
      have hYi : (Y : Int) < (n : Int) := by omega
      have HSN : Hid ((cS (setsL R l k)).set Y (.string d) = cS (setsL R l (k + 1))) := by
        show _ = _
        rw [show setsL R l (k + 1) = (setsL R l k).set (yAt l k).toNat (cAt l k) from rfl, yAt_at l k hkR, cAt_at l k hkR, ← hY, ← ed]
        unfold cS; rw [List.map_set]
      clear hc x0 x1 hY eY ed h0 h9
      go_wp2_with fail
      clear kv
      refine wp_region_held_drew (S := (fun w' => (∀ o, w'.cell? ⟨(w.heap.size + 1), o, none⟩ = (#[.int .i64 nbv, .int .i64 frv, .bool false, .int .i64 vwv, .int .i64 (H : Int), .slice (some ⟨b1, off, none⟩) nv cv] : Array Value)[o]?) ∧ (∀ o, w'.cell? ⟨P, o, none⟩ = (#[.int .i64 nbv, .int .i64 vw, .int .i64 vh, .slice (some ⟨g, 0, none⟩) n c6] : Array Value)[o]?) ∧ w'.cell? ⟨b1, off + k * 2, none⟩ = some (.int .i64 (Y : Int)) ∧ w'.cell? ⟨b1, off + k * 2 + 1, none⟩ = some (.string d))) (by kernel_rfl) ⟨(unhide HV).S, (unhide HP).S, ((unhide HB).cell (p := ⟨b1, off + k * 2, none⟩) hblt).trans (unhide HX0), ((unhide HB).cell (p := ⟨b1, off + k * 2 + 1, none⟩) hblt).trans (unhide HX1)⟩ (fun hHeld => ?_)
      have B5 := hide ((unhide HB).drew)
      have V5 := hide ((unhide HV).drew)
      have P5 := hide ((unhide HP).drew)
      have Z5 := hide ((unhide HZ).drew)
      have E5 : Hid (wr.drew.ownsRow (w.heap.size + 3) 9 1 (.slice (some ⟨g, 0, none⟩) n c6) n (cS (setsL R l k))) := unhide HE
      clear HB HV HP HZ HE
      generalize wr.drew = w7 at B5 V5 P5 Z5 E5 hHeld ⊢
      refine wtk (i := 0) (oi := { dst := some 77, op := .fieldAddr 32 (.tmp 8) 3, type := 0, pos := "l11_view.go:118", after := #[], guard := none }) (v := ?_) rfl (Or.inl ⟨by rfl, ?_⟩) (by assumption) ?_
      rotate_left 1
      · (intro w' hSw; (try dsimp only at hSw); go_simp; try with_reducible rfl)
      try simp only [Act.put, qqA, qqB, qqC]
      refine wtk (i := 1) (oi := { dst := some 78, op := .load 22 (.tmp 77), type := 22, pos := "l11_view.go:118", after := #[{ on := 0, ground := .data }], guard := none }) (v := ?_) rfl (Or.inl ⟨by rfl, ?_⟩) (by assumption) ?_
      rotate_left 1
      · (intro w' hSw; (try dsimp only at hSw); go_simp; try with_reducible rfl)
      try simp only [Act.put, qqA, qqB, qqC]
      refine wtk (i := 2) (oi := { dst := some 79, op := .fieldAddr 40 (.tmp 3) 5, type := 0, pos := "l11_view.go:118", after := #[], guard := none }) (v := ?_) rfl (Or.inl ⟨by rfl, ?_⟩) (by assumption) ?_
      rotate_left 1
      · (intro w' hSw; (try dsimp only at hSw); go_simp; try with_reducible rfl)
      try simp only [Act.put, qqA, qqB, qqC]
      refine wtk (i := 3) (oi := { dst := some 80, op := .load 38 (.tmp 79), type := 38, pos := "l11_view.go:118", after := #[{ on := 2, ground := .data }], guard := none }) (v := ?_) rfl (Or.inl ⟨by rfl, ?_⟩) (by assumption) ?_
      rotate_left 1
      · (intro w' hSw; (try dsimp only at hSw); go_simp; try with_reducible rfl)
      try simp only [Act.put, qqA, qqB, qqC]
      refine wtk (i := 4) (oi := { dst := some 81, op := .move (.tmp 9), type := 3, pos := "l11_view.go:118", after := #[], guard := none }) (v := ?_) rfl (Or.inl ⟨by rfl, ?_⟩) (by assumption) ?_
      rotate_left 1
      · (intro w' hSw; (try dsimp only at hSw); go_simp; try with_reducible rfl)
      try simp only [Act.put, qqA, qqB, qqC]
      refine wtk (i := 5) (oi := { dst := some 82, op := .indexAddr 38 (.tmp 80) (.tmp 81), type := 0, pos := "l11_view.go:118", after := #[{ on := 3, ground := .data }, { on := 4, ground := .data }], guard := none }) (v := ?_) rfl (Or.inl ⟨by rfl, ?_⟩) (by assumption) ?_
      rotate_left 1
      · (intro w' hSw; (try dsimp only at hSw); go_simp; try with_reducible rfl)
      try simp only [Act.put, qqA, qqB, qqC]
      refine wtk (i := 6) (oi := { dst := some 83, op := .fieldAddr 71 (.tmp 82) 0, type := 0, pos := "l11_view.go:118", after := #[{ on := 5, ground := .data }], guard := none }) (v := ?_) rfl (Or.inl ⟨by rfl, ?_⟩) (by assumption) ?_
      rotate_left 1
      · (intro w' hSw; (try dsimp only at hSw); go_simp; try with_reducible rfl)
      try simp only [Act.put, qqA, qqB, qqC]
      refine wtk (i := 7) (oi := { dst := some 84, op := .load 3 (.tmp 83), type := 3, pos := "l11_view.go:118", after := #[{ on := 6, ground := .data }], guard := none }) (v := ?_) rfl (Or.inl ⟨by rfl, ?_⟩) (by assumption) ?_
      rotate_left 1
      · (intro w' hSw; (try dsimp only at hSw); go_simp; try with_reducible rfl)
      try simp only [Act.put, qqA, qqB, qqC]
      refine wtk (i := 8) (oi := { dst := some 85, op := .fieldAddr 40 (.tmp 3) 5, type := 0, pos := "l11_view.go:118", after := #[], guard := none }) (v := ?_) rfl (Or.inl ⟨by rfl, ?_⟩) (by assumption) ?_
      rotate_left 1
      · (intro w' hSw; (try dsimp only at hSw); go_simp; try with_reducible rfl)
      try simp only [Act.put, qqA, qqB, qqC]
      refine wtk (i := 9) (oi := { dst := some 86, op := .load 38 (.tmp 85), type := 38, pos := "l11_view.go:118", after := #[{ on := 8, ground := .data }], guard := none }) (v := ?_) rfl (Or.inl ⟨by rfl, ?_⟩) (by assumption) ?_
      rotate_left 1
      · (intro w' hSw; (try dsimp only at hSw); go_simp; try with_reducible rfl)
      try simp only [Act.put, qqA, qqB, qqC]
      refine wtk (i := 10) (oi := { dst := some 87, op := .move (.tmp 9), type := 3, pos := "l11_view.go:118", after := #[], guard := none }) (v := ?_) rfl (Or.inl ⟨by rfl, ?_⟩) (by assumption) ?_
      rotate_left 1
      · (intro w' hSw; (try dsimp only at hSw); go_simp; try with_reducible rfl)
      try simp only [Act.put, qqA, qqB, qqC]
      refine wtk (i := 11) (oi := { dst := some 88, op := .indexAddr 38 (.tmp 86) (.tmp 87), type := 0, pos := "l11_view.go:118", after := #[{ on := 9, ground := .data }, { on := 10, ground := .data }], guard := none }) (v := ?_) rfl (Or.inl ⟨by rfl, ?_⟩) (by assumption) ?_
      rotate_left 1
      · (intro w' hSw; (try dsimp only at hSw); go_simp; try with_reducible rfl)
      try simp only [Act.put, qqA, qqB, qqC]
      refine wtk (i := 12) (oi := { dst := some 89, op := .fieldAddr 71 (.tmp 88) 1, type := 0, pos := "l11_view.go:118", after := #[{ on := 11, ground := .data }], guard := none }) (v := ?_) rfl (Or.inl ⟨by rfl, ?_⟩) (by assumption) ?_
      rotate_left 1
      · (intro w' hSw; (try dsimp only at hSw); go_simp; try with_reducible rfl)
      try simp only [Act.put, qqA, qqB, qqC]
      refine wtk (i := 13) (oi := { dst := some 90, op := .load 9 (.tmp 89), type := 9, pos := "l11_view.go:118", after := #[{ on := 12, ground := .data }], guard := none }) (v := ?_) rfl (Or.inl ⟨by rfl, ?_⟩) (by assumption) ?_
      rotate_left 1
      · (intro w' hSw; (try dsimp only at hSw); go_simp; try with_reducible rfl)
      try simp only [Act.put, qqA, qqB, qqC]
      refine wtk (i := 14) (oi := { dst := some 91, op := .indexAddr 22 (.tmp 78) (.tmp 84), type := 0, pos := "l11_view.go:118", after := #[{ on := 1, ground := .data }, { on := 7, ground := .data }, { on := 0, ground := .phase }, { on := 1, ground := .phase }, { on := 2, ground := .phase }, { on := 3, ground := .phase }, { on := 4, ground := .phase }, { on := 5, ground := .phase }, { on := 6, ground := .phase }, { on := 7, ground := .phase }, { on := 8, ground := .phase }, { on := 9, ground := .phase }, { on := 10, ground := .phase }, { on := 11, ground := .phase }, { on := 12, ground := .phase }, { on := 13, ground := .phase }], guard := none }) (v := ?_) rfl (Or.inl ⟨by rfl, ?_⟩) (by assumption) ?_
      rotate_left 1
      · (intro w' hSw; (try dsimp only at hSw); go_simp; try with_reducible rfl)
      try simp only [Act.put, qqA, qqB, qqC]
      refine wpAnyH_ready (rs := [15]) (by kernel_rfl) (by simp) ?_
      refine AllReadyH.cons (o := { dst := none, op := .store 9 (.tmp 91) (.tmp 90), type := 0, pos := "l11_view.go:118", after := #[{ on := 14, ground := .data }, { on := 13, ground := .data }, { on := 0, ground := .phase }, { on := 1, ground := .phase }, { on := 2, ground := .phase }, { on := 3, ground := .phase }, { on := 4, ground := .phase }, { on := 5, ground := .phase }, { on := 6, ground := .phase }, { on := 7, ground := .phase }, { on := 8, ground := .phase }, { on := 9, ground := .phase }, { on := 10, ground := .phase }, { on := 11, ground := .phase }, { on := 12, ground := .phase }, { on := 13, ground := .phase }], guard := none }) rfl (fun K hK => ?_) AllReadyH.nil
      obtain ⟨old, hold⟩ : ∃ old, (cS (setsL R l k))[Y]? = some old := ⟨_, List.getElem?_eq_getElem (by rw [cS_len, setsL_len, unhide HN]; exact hYn)⟩
      have hcY : w7.cell? ⟨g, Y, none⟩ = some old := ((unhide E5).cellAt Y (by omega)).trans hold
      have hfY := (unhide E5).frozenAt Y
      have R1 := ((unhide E5).stored Y (.string d)).1
      rw [unhide HSN] at R1
      obtain ⟨w8, hw8⟩ : ∃ w8, w8 = w7.setCell ⟨g, Y, none⟩ (.string d) := ⟨_, rfl⟩
      rw [← hw8] at R1
      have E8 := hide R1
      have B8 : Hid (Below w.heap.size w w8) := by rw [hw8]; exact (unhide B5).setCell (p := ⟨g, Y, none⟩) (by show w.heap.size ≤ g; have := unhide HG3; omega) _
      have V8 := hide ((unhide V5).far ⟨g, Y, none⟩ (.string d) (by show g ≠ _; have := unhide HG3; omega))
      have P8 := hide ((unhide P5).far ⟨g, Y, none⟩ (.string d) (unhide HGP))
      have Z8 := hide ((unhide Z5).far ⟨g, Y, none⟩ (.string d) (by show g ≠ _; have := unhide HG3; omega))
      rw [← hw8] at V8 P8 Z8
      go_simp
      rw [← hw8]
      refine hK.out _ _ ?_ (fun hHeld15 => ?_)
      · exact ⟨(unhide V8).S, (unhide P8).S, ((unhide B8).cell (p := ⟨b1, off + k * 2, none⟩) hblt).trans (unhide HX0), ((unhide B8).cell (p := ⟨b1, off + k * 2 + 1, none⟩) hblt).trans (unhide HX1)⟩
      clear hK K
      try simp only [Act.put, qqA, qqB, qqC]
      refine wpAnyH_done (by kernel_rfl) ?_ _
      clear hw8 hcY hfY hold R1
      go_wp2_with fail
      go_roundw
      case rel => exact ⟨k + 1, by omega, by go_num, B8, V8, Z8, P8, E8⟩
      case measure => simp [intOf]; omega
    · obtain rfl : k = nv := by omega
      have kp := (unhide HP).S
      have kz := (unhide HZ).S
      have kf := (unhide HZ).F
      go_wp2_with fail
      refine bodyPost_ret (v := .tuple #[.agg #[.int .i64 nbv, .int .i64 vw, .int .i64 vh, .slice (some ⟨g, 0, none⟩) n c6], .int .i64 0]) (by simp [results, Tryz.results41, go_sem, kz]) rfl ⟨⟨_, _, rfl, ?_⟩, ?_⟩
      · refine Go.Joins.ownsRow_le (base := w.heap.size + 3) ?_ (by omega)
        have hl1 : (w.heap.size + 1 + 1) < w.heap.size + 3 := by omega
        repeat refine ownsRow_setCell_below ?_ (by exact hl1) _
        exact unhide HE
      · have hl1 : w.heap.size ≤ (w.heap.size + 1 + 1) := by omega
        repeat refine Below.setCell ?_ (by exact hl1) _
        exact unhide HB
end Go.Proofs.YtmmnoepcklfonaaGreatDoor
