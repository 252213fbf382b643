/- Texts put together: ClkI NdI. -/
import Derived.Test.YtfogppnijdjakaaGreatDoorZG18
import Derived.Test.YtfogppnijdjakaaGreatDoorZG14
import Derived.Test.YtfogppnijdjakaaGreatDoorZG24
import Derived.Test.YtfogppnijdjakaaGreatDoorZG2
import Derived.Test.YtfogppnijdjakaaGreatDoorZG1
import Derived.Test.YtfogppnijdjakaaGreatDoorZG16
/- impl's doneOK and wireOK: slices.ContainsFunc with a function value, with a closure. -/
namespace Go.Proofs.YtfogppnijdjakaaGreatDoor
open Go.ChangeShapes Go.WideShapes Go.ChangeAt Go.RowKit
set_option linter.unusedVariables false
set_option maxHeartbeats 4000000 in
set_option maxRecDepth 100000 in
theorem itoolong (d : ByteArray) (hd : d.size ≤ 1048576) (w : World) : Calls Tryz.prog 70 #[.string d] w fun e w' => e = .returned (.bool (!decide (d.size ≤ 400))) ∧ w' = w := by
 by_cases h : d.size ≤ 400
 ·have g : ¬ (400 < (d.size : Int)) := by omega
  rw [decide_eq_true h]
  go_enter Tryz.func70, Tryz.ntmps70
  go_wp2_with fail
  go_ret
  exact ⟨rfl, rfl⟩
 ·have g : (400 < (d.size : Int)) := by omega
  rw [decide_eq_false h]
  go_enter Tryz.func70, Tryz.ntmps70
  go_wp2_with fail
  go_ret
  exact ⟨rfl, rfl⟩
set_option maxHeartbeats 4000000 in
set_option maxRecDepth 100000 in
theorem iixs (a : Option Addr) (cap n : Nat) (l : List ByteArray) (HN : Hid (l.length = n)) (hn : n ≤ 1048576) (HSZ : Hid (∀ k (h : k < l.length), l[k].size ≤ 1048576)) (R : Bool) (HR : Hid (R = doneB l)) (w : World) (hr : RowV w a (cS l)) :
  Calls Tryz.prog 92 #[.slice a n cap, .func (.func 70) #[] #[]] w fun e w' => ∃ r : Int, e = .returned (.int .i64 r) ∧ w' = w ∧ (R = true → r = -1) ∧ (R = false → 0 ≤ r) := by
 have HRW := hide hr
 clear hr
 go_enter Tryz.func92, Tryz.ntmps92
 go_wp2_with fail
 go_loop [8] (fun i => ∃ k : Nat, k ≤ n ∧ i = .int .i64 k ∧ Hid (R = doneB (l.drop k))) (fun i => n - (intOf i).toNat)
 case atStart => exact ⟨0, by omega, rfl, HR⟩
 case round =>
  obtain ⟨k, hk, rfl, HD⟩ := hrel
  by_cases hlt : k < n
  ·have hlk : k < l.length := by rw [unhide HN]; omega
   obtain ⟨b, off, rfl, hblt, hc⟩ := (unhide HRW).at (by rw [cS_len]; omega)
   obtain ⟨d, ed⟩ : ∃ d, d = l[k] := ⟨_, rfl⟩
   have x1 := hc k _ (cS_at l k hlk)
   rw [← ed] at x1
   have hds : d.size ≤ 1048576 := by rw [ed]; exact unhide HSZ k hlk
   have hlt' : (k : Int) < (n : Int) := by omega
   have i0 : (0 : Int) ≤ (k : Int) := by omega
   have HD2 := HD
   have e2 := done_step hlk
   rw [← ed] at e2
   have HD3 : Hid (R = (decide (d.size ≤ 400) && doneB (l.drop (k + 1)))) := by show _ = _; rw [unhide HD]; exact e2
   have hlk2 : (k : Int) ≤ 9223372036854775807 := by omega
   clear hc ed hlk e2 HD2 HD
   go_wp2_with fail
   refine (itoolong d hds _).mono ?_
   rintro e w1 ⟨rfl, rfl⟩
   by_cases q : d.size ≤ 400
   ·have q1 : decide (d.size ≤ 400) = true := decide_eq_true q
    have HD4 : Hid (R = doneB (l.drop (k + 1))) := by show _ = _; rw [unhide HD3, q1]; rfl
    simp only [q1]
    clear HD3
    go_wp2_with fail
    go_round
    case rel => exact ⟨k + 1, by omega, by go_num, HD4⟩
    case measure => simp [intOf]; omega
   ·have q1 : decide (d.size ≤ 400) = false := decide_eq_false q
    have HD4 : Hid (R = false) := by show _ = _; rw [unhide HD3, q1]; rfl
    simp only [q1]
    clear HD3
    go_wp2_with fail
    go_ret
    exact ⟨_, rfl, rfl, fun h => (by rw [unhide HD4] at h; cases h), fun _ => i0⟩
  ·have HD4 : Hid (R = true) := by show _ = _; rw [unhide HD, done_end (by rw [unhide HN]; omega)]
   go_wp2_with fail
   go_ret
   exact ⟨_, rfl, rfl, fun _ => rfl, fun h => (by rw [unhide HD4] at h; cases h)⟩
set_option maxHeartbeats 4000000 in
set_option maxRecDepth 100000 in
theorem iconts (a : Option Addr) (cap n : Nat) (l : List ByteArray) (HN : Hid (l.length = n)) (hn : n ≤ 1048576) (HSZ : Hid (∀ k (h : k < l.length), l[k].size ≤ 1048576)) (R : Bool) (HR : Hid (R = doneB l)) (w : World) (hr : RowV w a (cS l)) :
  Calls Tryz.prog 71 #[.slice a n cap, .func (.func 70) #[] #[]] w fun e w' => e = .returned (.bool (!R)) ∧ w' = w := by
 go_enter Tryz.func71, Tryz.ntmps71
 go_wp2_with fail
 refine (iixs a cap n l HN hn HSZ R HR _ hr).mono ?_
 rintro e w1 ⟨r, rfl, rfl, h1, h2⟩
 cases R
 ·have g := h2 rfl
  clear h1 h2
  go_wp2_with fail
  go_ret
  exact ⟨rfl, rfl⟩
 ·obtain rfl := h1 rfl
  clear h1 h2
  go_wp2_with fail
  go_ret
  exact ⟨rfl, rfl⟩
set_option maxHeartbeats 4000000 in
set_option maxRecDepth 100000 in
theorem idoneok (nv sv wv : Value) (a : Option Addr) (cap n : Nat) (l : List ByteArray) (HN : Hid (l.length = n)) (hn : n ≤ 1048576) (HSZ : Hid (∀ k (h : k < l.length), l[k].size ≤ 1048576)) (R : Bool) (HR : Hid (R = (decide (n ≤ 60) && doneB l))) (w : World) (hr : RowV w a (cS l)) :
  Calls Tryz.prog 48 #[.agg #[nv, sv, wv, .slice a n cap]] w fun e w' => e = .returned (.bool R) ∧ Below w.heap.size w w' := by
 have B0 := hide (Go.Joins.below_alloc1 w (.cells #[nv, sv, wv, .slice a n cap] 35))
 have HRW := hide (hr.below (unhide B0))
 clear hr
 by_cases h : n ≤ 60
 ·have g : (n : Int) ≤ 60 := by omega
  obtain ⟨R2, hR2⟩ : ∃ R2, R2 = doneB l := ⟨_, rfl⟩
  have HR2 := hide hR2
  obtain rfl : R = R2 := by rw [unhide HR, decide_eq_true h, hR2]; rfl
  clear hR2
  go_enter Tryz.func48, Tryz.ntmps48
  go_wp2_with fail
  refine (iconts a cap n l HN hn HSZ R HR2 _ (unhide HRW)).mono ?_
  rintro e w1 ⟨rfl, rfl⟩
  go_wp2_with fail
  go_ret
  refine ⟨?_, unhide B0⟩
  cases R <;> rfl
 ·have g : ¬ ((n : Int) ≤ 60) := by omega
  obtain rfl : R = false := by rw [unhide HR, decide_eq_false h]; rfl
  go_enter Tryz.func48, Tryz.ntmps48
  go_wp2_with fail
  go_ret
  exact ⟨rfl, unhide B0⟩
set_option maxHeartbeats 4000000 in
set_option maxRecDepth 100000 in
theorem ihasc (a : Option Addr) (cap n : Nat) (hn : n ≤ 1048576) (sv wv dv : Value) (x : Int) (R : Bool) (HR : Hid (R = inB x 0 ((n : Int) - 1))) (w : World) :
  Calls Tryz.prog 68 #[.agg #[.slice a n cap, sv, wv, dv], .int .i64 x] w fun e w' => e = .returned (.bool R) ∧ Below w.heap.size w w' := by
 have B0 := hide (Go.Joins.below_alloc1 w (.cells #[.slice a n cap, sv, wv, dv] 35))
 go_enter Tryz.func68, Tryz.ntmps68
 go_wp2_with fail
 refine (iwi x 0 ((n : Int) - 1) R HR _).mono ?_
 rintro e w1 ⟨rfl, rfl⟩
 go_wp2_with fail
 go_ret
 exact ⟨rfl, unhide B0⟩
set_option maxHeartbeats 4000000 in
set_option maxRecDepth 100000 in
theorem iastray (kd fr dst tm ix lt cm : Int) (ok : Bool) (ea : Option Addr) (ec n0 : Nat) (l : List Ent) (HN : Hid (l.length = n0)) (hn0 : n0 ≤ 1048576) (HSZ : Hid (∀ k (h : k < l.length), l[k].2.size ≤ 1048576)) (cb : Nat) (an : Option Addr) (kn nn : Nat) (hnn : nn ≤ 1048576) (sv wv dv : Value) (R : Bool) (HR : Hid (R = mgB nn ⟨kd, fr, dst, tm, ix, lt, cm, ok, l⟩)) (w : World) (hC : BF cb #[.slice an nn kn, sv, wv, dv] w) (hr : RowV w ea (cE l)) :
  Calls Tryz.prog 66 #[.agg #[.int .i64 kd, .int .i64 fr, .int .i64 dst, .int .i64 tm, .int .i64 ix, .int .i64 lt, .int .i64 cm, .bool ok, .slice ea n0 ec], .pointer (some ⟨cb, 0, none⟩)] w fun e w' => e = .returned (.bool (!R)) ∧ Below w.heap.size w w' := by
 have B0 := hide (Go.Joins.below_alloc1 w (.cells #[.int .i64 kd, .int .i64 fr, .int .i64 dst, .int .i64 tm, .int .i64 ix, .int .i64 lt, .int .i64 cm, .bool ok, .slice ea n0 ec] 82))
 have C0 := hide (hC.alloc (.cells #[.int .i64 kd, .int .i64 fr, .int .i64 dst, .int .i64 tm, .int .i64 ix, .int .i64 lt, .int .i64 cm, .bool ok, .slice ea n0 ec] 82))
 have A0 := hide (BF.new w #[.int .i64 kd, .int .i64 fr, .int .i64 dst, .int .i64 tm, .int .i64 ix, .int .i64 lt, .int .i64 cm, .bool ok, .slice ea n0 ec] 82)
 have HRW := hide (hr.below (unhide B0))
 clear hr hC
 obtain ⟨b1, h1⟩ : ∃ b, b = msgB kd fr dst tm ix lt cm l := ⟨_, rfl⟩
 obtain ⟨b2, h2⟩ : ∃ b, b = inB fr 0 ((nn : Int) - 1) := ⟨_, rfl⟩
 obtain ⟨b3, h3⟩ : ∃ b, b = inB dst 0 ((nn : Int) - 1) := ⟨_, rfl⟩
 have H1 := hide h1
 have H2 := hide h2
 have H3 := hide h3
 have HRR : Hid (R = (b1 && b2 && b3)) := by show _ = _; rw [unhide HR]; unfold mgB; rw [h1, h2, h3]
 clear h1 h2 h3
 go_enter Tryz.func66, Tryz.ntmps66
 go_wp2_with fail
 refine (imsgok kd fr dst tm ix lt cm ok ea ec n0 l HN hn0 HSZ b1 H1 _ (unhide HRW)).mono ?_
 rintro e w1 ⟨rfl, hb⟩
 have B1 := hide ((unhide B0).trans (hb.mono (unhide B0).size))
 have C1 := hide ((unhide C0).below hb)
 have A1 := hide ((unhide A0).below hb)
 clear hb B0 C0 A0
 have c1 := (unhide C1).S
 have a1 := (unhide A1).S
 cases b1
 ·obtain rfl : R = false := by rw [unhide HRR]; rfl
  go_wp2_with fail
  go_ret
  exact ⟨rfl, unhide B1⟩
 go_wp2_with fail
 refine (ihasc an kn nn hnn sv wv dv fr b2 H2 _).mono ?_
 rintro e w2 ⟨rfl, hb⟩
 have B2 := hide ((unhide B1).trans (hb.mono (unhide B1).size))
 have C2 := hide ((unhide C1).below hb)
 have A2 := hide ((unhide A1).below hb)
 clear hb B1 C1 A1 c1 a1
 have c2 := (unhide C2).S
 have a2 := (unhide A2).S
 cases b2
 ·obtain rfl : R = false := by rw [unhide HRR]; rfl
  go_wp2_with fail
  go_ret
  exact ⟨rfl, unhide B2⟩
 go_wp2_with fail
 refine (ihasc an kn nn hnn sv wv dv dst b3 H3 _).mono ?_
 rintro e w3 ⟨rfl, hb⟩
 have B3 := hide ((unhide B2).trans (hb.mono (unhide B2).size))
 clear hb B2 C2 A2 c2 a2
 obtain rfl : R = b3 := by rw [unhide HRR]; rfl
 go_wp2_with fail
 go_ret
 refine ⟨?_, unhide B3⟩
 cases R <;> rfl
set_option maxHeartbeats 4000000 in
set_option maxRecDepth 100000 in
theorem iixm (a : Option Addr) (cap n : Nat) (W : List MgA) (HN : Hid (W.length = n)) (hn : n ≤ 1048576) (HF : Hid (∀ p ∈ W, Mg.fits 1048576 p.1)) (cb : Nat) (an : Option Addr) (kn nn : Nat) (hnn : nn ≤ 1048576) (sv wv dv : Value) (R : Bool) (HR : Hid (R = wireB nn W)) (w : World) (hC : BF cb #[.slice an nn kn, sv, wv, dv] w) (hr : RowV w a (W.flatMap cM)) (he : ∀ p ∈ W, RowV w p.2.1 (cE p.1.es)) :
  Calls Tryz.prog 91 #[.slice a n cap, .func (.func 66) #[] #[.pointer (some ⟨cb, 0, none⟩)]] w fun e w' => ∃ r : Int, e = .returned (.int .i64 r) ∧ Below w.heap.size w w' ∧ (R = true → r = -1) ∧ (R = false → 0 ≤ r) := by
 have HRW := hide hr
 have HEW := hide he
 have HC := hide hC
 clear hr he hC
 go_enter Tryz.func91, Tryz.ntmps91
 go_wp2_with fail
 go_loopw [8] (fun i wr => ∃ k : Nat, k ≤ n ∧ i = .int .i64 k ∧ Hid (R = wireB nn (W.drop k)) ∧ Hid (Below w.heap.size w wr)) (fun i _ => n - (intOf i).toNat)
 case atStart => exact ⟨0, by omega, rfl, HR, Below.refl _ _⟩
 case round =>
  obtain ⟨k, hk, rfl, HD, HB⟩ := hrel
  by_cases hlt : k < n
  ·have hlk : k < W.length := by rw [unhide HN]; exact hlt
   obtain ⟨b, off, rfl, hblt, hc⟩ := (unhide HRW).at (by rw [flat_len (c := cM) (z := 9) (fun p => rfl) W]; omega)
   have m1 := (row_msg hc k hlk).below (unhide HB) hblt
   have r1 := (unhide HEW _ (List.getElem_mem hlk)).below (unhide HB)
   have hf := unhide HF _ (List.getElem_mem hlk)
   have e2 := wire_step (n := nn) hlk
   have HD3 : Hid (R = (mgB nn W[k].1 && wireB nn (W.drop (k + 1)))) := by show _ = _; rw [unhide HD]; exact e2
   clear hc HD e2
   generalize W[k] = p at m1 r1 hf HD3
   obtain ⟨⟨kd, fr, dst, tm, ix, lt, cm, ok, l⟩, ea, ec⟩ := p
   obtain ⟨n0, hn0⟩ : ∃ n0, l.length = n0 := ⟨_, rfl⟩
   have HN0 : Hid (l.length = n0) := hn0
   obtain ⟨f0, fs⟩ := hf
   have f0' : n0 ≤ 1048576 := by rw [← hn0]; exact f0
   have FS : Hid (∀ k (h : k < l.length), l[k].2.size ≤ 1048576) := fs
   unfold M9 at m1
   simp only [hn0] at m1
   have E1 := hide r1
   have C1 := hide ((unhide HC).keep (unhide HB).size ((unhide HB).block cb (unhide HC).lt))
   have hlt' : (k : Int) < (n : Int) := by omega
   have i0 : (0 : Int) ≤ (k : Int) := by omega
   obtain ⟨b1, hb1⟩ : ∃ b1, b1 = mgB nn ⟨kd, fr, dst, tm, ix, lt, cm, ok, l⟩ := ⟨_, rfl⟩
   have HB1 := hide hb1
   have HD4 : Hid (R = (b1 && wireB nn (W.drop (k + 1)))) := by show _ = _; rw [unhide HD3, hb1]
   clear hlk hn0 f0 fs r1 hb1 HD3
   go_wp2_with fail
   refine (iastray kd fr dst tm ix lt cm ok ea ec n0 l HN0 f0' FS cb an kn nn hnn sv wv dv b1 HB1 _ (unhide C1) (unhide E1)).mono ?_
   rintro e w1 ⟨rfl, hb⟩
   have B1 := hide ((unhide HB).trans (hb.mono (unhide HB).size))
   clear hb HB m1
   cases b1
   ·have HD5 : Hid (R = false) := by show _ = _; rw [unhide HD4]; rfl
    clear HD4
    go_wp2_with fail
    go_ret
    exact ⟨_, rfl, unhide B1, fun h => (by rw [unhide HD5] at h; cases h), fun _ => i0⟩
   ·have HD5 : Hid (R = wireB nn (W.drop (k + 1))) := by show _ = _; rw [unhide HD4]; rfl
    clear HD4
    go_wp2_with fail
    go_roundw
    case rel => exact ⟨k + 1, by omega, by go_num, HD5, B1⟩
    case measure => simp [intOf]; omega
  ·have HD4 : Hid (R = true) := by show _ = _; rw [unhide HD, wire_end (by rw [unhide HN]; omega)]
   go_wp2_with fail
   go_ret
   exact ⟨_, rfl, unhide HB, fun _ => rfl, fun h => (by rw [unhide HD4] at h; cases h)⟩
set_option maxHeartbeats 4000000 in
set_option maxRecDepth 100000 in
theorem icontm (a : Option Addr) (cap n : Nat) (W : List MgA) (HN : Hid (W.length = n)) (hn : n ≤ 1048576) (HF : Hid (∀ p ∈ W, Mg.fits 1048576 p.1)) (cb : Nat) (an : Option Addr) (kn nn : Nat) (hnn : nn ≤ 1048576) (sv wv dv : Value) (R : Bool) (HR : Hid (R = wireB nn W)) (w : World) (hC : BF cb #[.slice an nn kn, sv, wv, dv] w) (hr : RowV w a (W.flatMap cM)) (he : ∀ p ∈ W, RowV w p.2.1 (cE p.1.es)) :
  Calls Tryz.prog 69 #[.slice a n cap, .func (.func 66) #[] #[.pointer (some ⟨cb, 0, none⟩)]] w fun e w' => e = .returned (.bool (!R)) ∧ Below w.heap.size w w' := by
 go_enter Tryz.func69, Tryz.ntmps69
 go_wp2_with fail
 refine (iixm a cap n W HN hn HF cb an kn nn hnn sv wv dv R HR _ hC hr he).mono ?_
 rintro e w1 ⟨r, rfl, hb, h1, h2⟩
 cases R
 ·have g := h2 rfl
  clear h1 h2
  go_wp2_with fail
  go_ret
  exact ⟨rfl, hb⟩
 ·obtain rfl := h1 rfl
  clear h1 h2
  go_wp2_with fail
  go_ret
  exact ⟨rfl, hb⟩
set_option maxHeartbeats 4000000 in
set_option maxRecDepth 100000 in
theorem iwireok (an : Option Addr) (kn nn : Nat) (hnn : nn ≤ 1048576) (sv dv : Value) (a : Option Addr) (cap n : Nat) (W : List MgA) (HN : Hid (W.length = n)) (hn : n ≤ 1048576) (HF : Hid (∀ p ∈ W, Mg.fits 1048576 p.1)) (R : Bool) (HR : Hid (R = (decide (n ≤ 60) && wireB nn W))) (w : World) (hr : RowV w a (W.flatMap cM)) (he : ∀ p ∈ W, RowV w p.2.1 (cE p.1.es)) :
  Calls Tryz.prog 47 #[.agg #[.slice an nn kn, sv, .slice a n cap, dv]] w fun e w' => e = .returned (.bool R) ∧ Below w.heap.size w w' := by
 have B0 := hide (Go.Joins.below_alloc1 w (.cells #[.slice an nn kn, sv, .slice a n cap, dv] 35))
 have C0 := hide (BF.new w #[.slice an nn kn, sv, .slice a n cap, dv] 35)
 have HRW := hide (hr.below (unhide B0))
 have HEW : Hid (∀ p ∈ W, RowV (w.alloc (.cells #[.slice an nn kn, sv, .slice a n cap, dv] 35)) p.2.1 (cE p.1.es)) := fun p hp => (he p hp).below (unhide B0)
 clear hr he
 by_cases h : n ≤ 60
 ·have g : (n : Int) ≤ 60 := by omega
  obtain ⟨R2, hR2⟩ : ∃ R2, R2 = wireB nn W := ⟨_, rfl⟩
  have HR2 := hide hR2
  obtain rfl : R = R2 := by rw [unhide HR, decide_eq_true h, hR2]; rfl
  clear hR2
  go_enter Tryz.func47, Tryz.ntmps47
  go_wp2_with fail
  refine (icontm a cap n W HN hn HF w.heap.size an kn nn hnn sv (.slice a n cap) dv R HR2 _ (unhide C0) (unhide HRW) (unhide HEW)).mono ?_
  rintro e w1 ⟨rfl, hb⟩
  have B1 := hide ((unhide B0).trans (hb.mono (unhide B0).size))
  clear hb
  go_wp2_with fail
  go_ret
  refine ⟨?_, unhide B1⟩
  cases R <;> rfl
 ·have g : ¬ ((n : Int) ≤ 60) := by omega
  obtain rfl : R = false := by rw [unhide HR, decide_eq_false h]; rfl
  go_enter Tryz.func47, Tryz.ntmps47
  go_wp2_with fail
  go_ret
  exact ⟨rfl, unhide B0⟩
end Go.Proofs.YtfogppnijdjakaaGreatDoor

/- Which nodes are right: what the parts of the program answer. -/
namespace Go.Proofs.YtfogppnijdjakaaGreatDoor
open Go.ChangeShapes Go.WideShapes Go.ChangeAt Go.RowKit
set_option linter.unusedVariables false
set_option maxHeartbeats 4000000 in
set_option maxRecDepth 100000 in
theorem ihas (id nd tm vt ro cm el wt : Int) (up : Bool) (a : Option Addr) (cap n : Nat) (av : Option Addr) (cv nv : Nat) (ax : Option Addr) (cx nx : Nat) (ag : Option Addr) (cg ng : Nat) (x : Int) (h1 : 1 ≤ nd) (h5 : nd ≤ 5) (R : Bool) (HR : Hid (R = inB x 0 (nd - 1))) (w : World) :
  Calls Tryz.prog 82 #[.agg #[.int .i64 id, .int .i64 nd, .int .i64 tm, .int .i64 vt, .int .i64 ro, .bool up, .slice a n cap, .int .i64 cm, .int .i64 el, .int .i64 wt, .slice av nv cv, .slice ax nx cx, .slice ag ng cg], .int .i64 x] w fun e w' => e = .returned (.bool R) ∧ Below w.heap.size w w' := by
 have B0 := hide (Go.Joins.below_alloc1 w (.cells #[.int .i64 id, .int .i64 nd, .int .i64 tm, .int .i64 vt, .int .i64 ro, .bool up, .slice a n cap, .int .i64 cm, .int .i64 el, .int .i64 wt, .slice av nv cv, .slice ax nx cx, .slice ag ng cg] 71))
 have e1 : IntKind.i64.wrap (nd - 1) = nd - 1 := wrapi _ (by omega) (by omega)
 go_enter Tryz.func82, Tryz.ntmps82
 go_wp2_with fail
 refine (iwi x 0 (nd - 1) R HR _).mono ?_
 rintro e w1 ⟨rfl, rfl⟩
 go_wp2_with fail
 go_ret
 exact ⟨rfl, unhide B0⟩
set_option maxHeartbeats 4000000 in
set_option maxRecDepth 100000 in
theorem ilast (id nd tm vt ro cm el wt : Int) (up : Bool) (a : Option Addr) (cap n : Nat) (av : Option Addr) (cv nv : Nat) (ax : Option Addr) (cx nx : Nat) (ag : Option Addr) (cg ng : Nat)  (w : World) :
  Calls Tryz.prog 85 #[.agg #[.int .i64 id, .int .i64 nd, .int .i64 tm, .int .i64 vt, .int .i64 ro, .bool up, .slice a n cap, .int .i64 cm, .int .i64 el, .int .i64 wt, .slice av nv cv, .slice ax nx cx, .slice ag ng cg]] w fun e w' => e = .returned (.int .i64 (n : Int)) ∧ Below w.heap.size w w' := by
 have B0 := hide (Go.Joins.below_alloc1 w (.cells #[.int .i64 id, .int .i64 nd, .int .i64 tm, .int .i64 vt, .int .i64 ro, .bool up, .slice a n cap, .int .i64 cm, .int .i64 el, .int .i64 wt, .slice av nv cv, .slice ax nx cx, .slice ag ng cg] 71))
 go_enter Tryz.func85, Tryz.ntmps85
 go_wp2_with fail
 go_ret
 exact ⟨rfl, unhide B0⟩
set_option maxHeartbeats 4000000 in
set_option maxRecDepth 100000 in
theorem instate (id nd tm vt ro cm el wt : Int) (up : Bool) (a : Option Addr) (cap n : Nat) (av : Option Addr) (cv nv : Nat) (ax : Option Addr) (cx nx : Nat) (ag : Option Addr) (cg ng : Nat)  (w : World) :
  Calls Tryz.prog 65 #[.agg #[.int .i64 id, .int .i64 nd, .int .i64 tm, .int .i64 vt, .int .i64 ro, .bool up, .slice a n cap, .int .i64 cm, .int .i64 el, .int .i64 wt, .slice av nv cv, .slice ax nx cx, .slice ag ng cg]] w fun e w' => e = .returned (.agg #[.int .i64 tm, .int .i64 vt, .slice a n cap]) ∧ Below w.heap.size w w' := by
 have B0 := hide (Go.Joins.below_alloc2 w (.cells #[.int .i64 id, .int .i64 nd, .int .i64 tm, .int .i64 vt, .int .i64 ro, .bool up, .slice a n cap, .int .i64 cm, .int .i64 el, .int .i64 wt, .slice av nv cv, .slice ax nx cx, .slice ag ng cg] 71) (.cells #[.int .i64 tm, .int .i64 vt, .slice a n cap] 76))
 go_enter Tryz.func65, Tryz.ntmps65
 go_wp2_with fail
 refine bodyPost_ret (v := .agg #[.int .i64 tm, .int .i64 vt, .slice a n cap]) (by simp [results, Tryz.results65, go_sem]) rfl ⟨rfl, ?_⟩
 exact unhide B0
set_option maxHeartbeats 4000000 in
set_option maxRecDepth 100000 in
theorem iroleok (id nd tm vt ro cm el wt : Int) (up : Bool) (a : Option Addr) (cap n : Nat) (av : Option Addr) (cv nv : Nat) (ax : Option Addr) (cx nx : Nat) (ag : Option Addr) (cg ng : Nat) (R : Bool) (HR : Hid (R = roleB ro up)) (w : World) :
  Calls Tryz.prog 84 #[.agg #[.int .i64 id, .int .i64 nd, .int .i64 tm, .int .i64 vt, .int .i64 ro, .bool up, .slice a n cap, .int .i64 cm, .int .i64 el, .int .i64 wt, .slice av nv cv, .slice ax nx cx, .slice ag ng cg]] w fun e w' => e = .returned (.bool R) ∧ Below w.heap.size w w' := by
 have B0 := hide (Go.Joins.below_alloc1 w (.cells #[.int .i64 id, .int .i64 nd, .int .i64 tm, .int .i64 vt, .int .i64 ro, .bool up, .slice a n cap, .int .i64 cm, .int .i64 el, .int .i64 wt, .slice av nv cv, .slice ax nx cx, .slice ag ng cg] 71))
 obtain ⟨R1, hR1⟩ : ∃ b, b = inB ro 0 2 := ⟨_, rfl⟩
 have HR1 := hide hR1
 clear hR1
 go_enter Tryz.func84, Tryz.ntmps84
 go_wp2_with fail
 refine (iwi ro 0 2 R1 HR1 _).mono ?_
 rintro e w1 ⟨rfl, rfl⟩
 cases R1 with
 | false =>
  have hR : R = false := by rw [unhide HR]; unfold roleB; rw [← unhide HR1]; rfl
  subst hR
  go_wp2_with fail
  go_ret
  exact ⟨rfl, unhide B0⟩
 | true =>
  cases up with
  | true =>
   have hR : R = true := by rw [unhide HR]; unfold roleB; rw [← unhide HR1]; rfl
   subst hR
   go_wp2_with fail
   go_ret
   exact ⟨rfl, unhide B0⟩
  | false =>
   have hz : (ro == 0) = R := by rw [unhide HR]; unfold roleB; rw [← unhide HR1, Bool.eq_iff_iff]; simp
   clear HR HR1
   go_wp2_with fail
   go_ret
   exact ⟨rfl, unhide B0⟩
set_option maxHeartbeats 4000000 in
set_option maxRecDepth 100000 in
theorem ivotesok (id nd tm vt ro cm el wt : Int) (up : Bool) (a : Option Addr) (cap n : Nat) (av : Option Addr) (cv nv : Nat) (ax : Option Addr) (cx nx : Nat) (ag : Option Addr) (cg ng : Nat) (lv : List Int) (HNv : Hid (lv.length = nv)) (hnv : nv ≤ 1048576) (h1 : 1 ≤ nd) (h5 : nd ≤ 5) (R : Bool) (HR0 : Hid (R = upB nd 0 lv)) (w : World) (hr : RowV w av (cI lv)) :
  Calls Tryz.prog 86 #[.agg #[.int .i64 id, .int .i64 nd, .int .i64 tm, .int .i64 vt, .int .i64 ro, .bool up, .slice a n cap, .int .i64 cm, .int .i64 el, .int .i64 wt, .slice av nv cv, .slice ax nx cx, .slice ag ng cg]] w fun e w' => e = .returned (.bool R) ∧ Below w.heap.size w w' := by
 have B0 := hide (Go.Joins.below_alloc1 w (.cells #[.int .i64 id, .int .i64 nd, .int .i64 tm, .int .i64 vt, .int .i64 ro, .bool up, .slice a n cap, .int .i64 cm, .int .i64 el, .int .i64 wt, .slice av nv cv, .slice ax nx cx, .slice ag ng cg] 71))
 have A0 := hide (BF.new w #[.int .i64 id, .int .i64 nd, .int .i64 tm, .int .i64 vt, .int .i64 ro, .bool up, .slice a n cap, .int .i64 cm, .int .i64 el, .int .i64 wt, .slice av nv cv, .slice ax nx cx, .slice ag ng cg] 71)
 have HRv := hide hr
 clear hr
 have e1 : IntKind.i64.wrap (nd - 1) = nd - 1 := wrapi _ (by omega) (by omega)
 go_enter Tryz.func86, Tryz.ntmps86
 go_wp2_with fail
 go_loopw [3, 9] (fun p i wr => ∃ (k : Nat) (q : Int), k ≤ nv ∧ i = .int .i64 k ∧ p = .int .i64 q ∧ Hid (R = upB nd q (lv.drop k)) ∧ 0 ≤ q ∧ Hid (BF w.heap.size #[.int .i64 id, .int .i64 nd, .int .i64 tm, .int .i64 vt, .int .i64 ro, .bool up, .slice a n cap, .int .i64 cm, .int .i64 el, .int .i64 wt, .slice av nv cv, .slice ax nx cx, .slice ag ng cg] wr) ∧ Hid (Below w.heap.size w wr)) (fun _ i _ => nv - (intOf i).toNat)
 case atStart => exact ⟨0, 0, by omega, rfl, rfl, HR0, by omega, A0, B0⟩
 case round =>
  clear A0 B0 HR0
  obtain ⟨k, q, hk, rfl, rfl, HQ, hq0, A1, B1⟩ := hrel
  have a1 := (unhide A1).S
  by_cases hlt : k < nv
  ·obtain ⟨b, off, ha, hblt, hc⟩ := (unhide HRv).at (by rw [cI_len, unhide HNv]; omega)
   subst ha
   have hlk : k < lv.length := by rw [unhide HNv]; exact hlt
   obtain ⟨t, et⟩ : ∃ t, t = lv[k] := ⟨_, rfl⟩
   have x0 := hc k _ (cI_at lv k hlk)
   rw [← et] at x0
   have hx0 : wr.cell? ⟨b, off + k, none⟩ = some (.int .i64 t) := ((unhide B1).cell (p := ⟨b, off + k, none⟩) hblt).trans x0
   have hq := (unhide HQ).trans (upB_step nd q lv k hlk)
   rw [← et] at hq
   have HQ2 := hide hq
   have hlt' : (k : Int) < (nv : Int) := by omega
   have hlt0 : (0 : Int) ≤ (k : Int) := by omega
   obtain ⟨R1, hR1⟩ : ∃ b, b = inB t q (nd - 1) := ⟨_, rfl⟩
   have HR1 := hide hR1
   clear hc x0 et hq hR1 HQ HRv hlk
   go_wp2_with fail
   refine (iwi t q (nd - 1) R1 HR1 _).mono ?_
   rintro e w2 ⟨rfl, rfl⟩
   cases R1 with
   | false =>
    have hR : R = false := by have := unhide HQ2; rw [← unhide HR1] at this; simpa using this
    subst hR
    go_wp2_with fail
    go_ret
    exact ⟨rfl, unhide B1⟩
   | true =>
    have HQ3 : Hid (R = upB nd (t + 1) (lv.drop (k + 1))) := by show _ = _; have := unhide HQ2; rw [← unhide HR1] at this; simpa using this
    have hb : q ≤ t ∧ t ≤ nd - 1 := by have := unhide HR1; unfold inB at this; simpa using this
    have e2 : IntKind.i64.wrap (t + 1) = t + 1 := wrapi _ (by omega) (by omega)
    have hb0 : 0 ≤ t + 1 := by omega
    clear HQ2 HR1 hb
    go_wp2_with fail
    go_roundw
    case rel => exact ⟨k + 1, t + 1, by omega, by go_num, rfl, HQ3, hb0, A1, B1⟩
    case measure => simp [intOf]; omega
  ·have hR : R = true := (unhide HQ).trans (upB_end _ _ _ _ (by rw [unhide HNv]; omega))
   subst hR
   go_wp2_with fail
   go_ret
   exact ⟨rfl, unhide B1⟩
set_option maxHeartbeats 4000000 in
set_option maxRecDepth 100000 in
theorem iplacesok (id nd tm vt ro cm el wt : Int) (up : Bool) (a : Option Addr) (cap n : Nat) (av : Option Addr) (cv nv : Nat) (ax : Option Addr) (cx nx : Nat) (ag : Option Addr) (cg ng : Nat) (lx lg : List Int) (HNx : Hid (lx.length = nx)) (HNg : Hid (lg.length = ng)) (hn : n ≤ 1048576) (hnx : nx ≤ 1048576) (hng : ng ≤ 1048576) (h1 : 1 ≤ nd) (h5 : nd ≤ 5) (R : Bool) (HR0 : Hid (R = placesB nd (n : Int) lx lg)) (w : World) (hrx : RowV w ax (cI lx)) (hrg : RowV w ag (cI lg)) :
  Calls Tryz.prog 87 #[.agg #[.int .i64 id, .int .i64 nd, .int .i64 tm, .int .i64 vt, .int .i64 ro, .bool up, .slice a n cap, .int .i64 cm, .int .i64 el, .int .i64 wt, .slice av nv cv, .slice ax nx cx, .slice ag ng cg]] w fun e w' => e = .returned (.bool R) ∧ Below w.heap.size w w' := by
 have B0 := hide (Go.Joins.below_alloc1 w (.cells #[.int .i64 id, .int .i64 nd, .int .i64 tm, .int .i64 vt, .int .i64 ro, .bool up, .slice a n cap, .int .i64 cm, .int .i64 el, .int .i64 wt, .slice av nv cv, .slice ax nx cx, .slice ag ng cg] 71))
 have A0 := hide (BF.new w #[.int .i64 id, .int .i64 nd, .int .i64 tm, .int .i64 vt, .int .i64 ro, .bool up, .slice a n cap, .int .i64 cm, .int .i64 el, .int .i64 wt, .slice av nv cv, .slice ax nx cx, .slice ag ng cg] 71)
 have HRx := hide hrx
 have HRg := hide hrg
 have HRR := unhide HR0
 unfold placesB at HRR
 rw [unhide HNx, unhide HNg] at HRR
 have HRP := hide HRR
 clear hrx hrg HRR HR0
 go_enter Tryz.func87, Tryz.ntmps87
 by_cases hx : (nx : Int) = nd
 ·have nx1 : ((nx : Int) != nd) = false := by simpa using hx
  by_cases hg : (ng : Int) = nd
  ·have ng1 : ((ng : Int) != nd) = false := by simpa using hg
   have HQ0 : Hid (R = plB (n : Int) (lx.drop 0) (lg.drop 0)) := by show _ = _; rw [unhide HRP, decide_eq_true hx, decide_eq_true hg, List.drop_zero, List.drop_zero]; simp
   have HXG : Hid ((nx : Int) = nd ∧ (ng : Int) = nd) := ⟨hx, hg⟩
   clear HRP hx hg
   go_wp2_with fail
   clear nx1 ng1
   go_loopw [22] (fun i wr => ∃ (k : Nat), k ≤ nx ∧ i = .int .i64 k ∧ Hid (R = plB (n : Int) (lx.drop k) (lg.drop k)) ∧ Hid (BF w.heap.size #[.int .i64 id, .int .i64 nd, .int .i64 tm, .int .i64 vt, .int .i64 ro, .bool up, .slice a n cap, .int .i64 cm, .int .i64 el, .int .i64 wt, .slice av nv cv, .slice ax nx cx, .slice ag ng cg] wr) ∧ Hid (Below w.heap.size w wr)) (fun i _ => nx - (intOf i).toNat)
   case atStart => exact ⟨0, by omega, rfl, HQ0, A0, B0⟩
   case round =>
    clear A0 B0 HQ0
    obtain ⟨k, hk, rfl, HQ, A1, B1⟩ := hrel
    have a1 := (unhide A1).S
    by_cases hlt : k < nx
    ·have hltg : k < ng := by have := unhide HXG; omega
     obtain ⟨b, off, ha, hblt, hc⟩ := (unhide HRx).at (by rw [cI_len, unhide HNx]; omega)
     subst ha
     obtain ⟨b2, off2, ha2, hblt2, hc2⟩ := (unhide HRg).at (by rw [cI_len, unhide HNg]; omega)
     subst ha2
     have hlk : k < lx.length := by rw [unhide HNx]; exact hlt
     have hlk2 : k < lg.length := by rw [unhide HNg]; exact hltg
     obtain ⟨t, et⟩ : ∃ t, t = lx[k] := ⟨_, rfl⟩
     obtain ⟨u, eu⟩ : ∃ u, u = lg[k] := ⟨_, rfl⟩
     have x0 := hc k _ (cI_at lx k hlk)
     have y0 := hc2 k _ (cI_at lg k hlk2)
     rw [← et] at x0
     rw [← eu] at y0
     have hx0 : wr.cell? ⟨b, off + k, none⟩ = some (.int .i64 t) := ((unhide B1).cell (p := ⟨b, off + k, none⟩) hblt).trans x0
     have hq := (unhide HQ).trans (plB_step (n : Int) lx lg k hlk hlk2)
     rw [← et, ← eu] at hq
     have HQ2 := hide hq
     have HY0 := hide y0
     have HBL2 := hide hblt2
     have hlt' : (k : Int) < (nx : Int) := by omega
     have hltg' : (k : Int) < (ng : Int) := by omega
     have hlt0 : (0 : Int) ≤ (k : Int) := by omega
     have e1 : IntKind.i64.wrap ((n : Int) + 1) = (n : Int) + 1 := wrapi _ (by omega) (by omega)
     obtain ⟨R1, hR1⟩ : ∃ b, b = inB t 1 ((n : Int) + 1) := ⟨_, rfl⟩
     have HR1 := hide hR1
     obtain ⟨R2, hR2⟩ : ∃ b, b = inB u 0 (t - 1) := ⟨_, rfl⟩
     have HR2 := hide hR2
     clear hc x0 et hq hR1 hR2 HQ hc2 y0 eu hblt2 hlk hlk2
     go_wp2_with fail
     refine (ilast id nd tm vt ro cm el wt up a cap n av cv nv _ cx nx _ cg ng _).mono ?_
     rintro e w2 ⟨rfl, hb2⟩
     have B2 := hide ((unhide B1).trans (hb2.mono (unhide B1).size))
     have A2 := hide ((unhide A1).below hb2)
     clear hb2 A1 B1 a1 hx0
     have a2 := (unhide A2).S
     have hy0 : w2.cell? ⟨b2, off2 + k, none⟩ = some (.int .i64 u) := ((unhide B2).cell (p := ⟨b2, off2 + k, none⟩) (unhide HBL2)).trans (unhide HY0)
     go_wp2_with fail
     refine (iwi t 1 ((n : Int) + 1) R1 HR1 _).mono ?_
     rintro e w3 ⟨rfl, rfl⟩
     cases R1 with
     | false =>
      have hR : R = false := by have := unhide HQ2; rw [← unhide HR1] at this; simpa using this
      subst hR
      go_wp2_with fail
      go_ret
      exact ⟨rfl, unhide B2⟩
     | true =>
      have hb : 1 ≤ t ∧ t ≤ (n : Int) + 1 := by have := unhide HR1; unfold inB at this; simpa using this
      have e2 : IntKind.i64.wrap (t - 1) = t - 1 := wrapi _ (by omega) (by omega)
      clear hb
      go_wp2_with fail
      refine (iwi u 0 (t - 1) R2 HR2 _).mono ?_
      rintro e w3 ⟨rfl, rfl⟩
      cases R2 with
      | false =>
       have hR : R = false := by have := unhide HQ2; rw [← unhide HR2] at this; simpa using this
       subst hR
       go_wp2_with fail
       go_ret
       exact ⟨rfl, unhide B2⟩
      | true =>
       have HQ3 : Hid (R = plB (n : Int) (lx.drop (k + 1)) (lg.drop (k + 1))) := by show _ = _; have := unhide HQ2; rw [← unhide HR1, ← unhide HR2] at this; simpa using this
       clear HQ2 HR1 HR2 hy0 HY0 HBL2
       go_wp2_with fail
       go_roundw
       case rel => exact ⟨k + 1, by omega, by go_num, HQ3, A2, B2⟩
       case measure => simp [intOf]; omega
    ·have hR : R = true := (unhide HQ).trans (plB_end _ _ _ _ (by rw [unhide HNx]; omega))
     subst hR
     go_wp2_with fail
     go_ret
     exact ⟨rfl, unhide B1⟩
  ·have ng1 : ((ng : Int) != nd) = true := by simpa using hg
   have hR : R = false := by rw [unhide HRP, decide_eq_false hg]; simp
   subst hR
   clear hg hx HRP
   go_wp2_with fail
   go_ret
   exact ⟨rfl, unhide B0⟩
 ·have nx1 : ((nx : Int) != nd) = true := by simpa using hx
  have hR : R = false := by rw [unhide HRP, decide_eq_false hx]; simp
  subst hR
  clear hx HRP
  go_wp2_with fail
  go_ret
  exact ⟨rfl, unhide B0⟩
end Go.Proofs.YtfogppnijdjakaaGreatDoor
