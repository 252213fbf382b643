/- l05Least, l05Fit: what the specification answers. -/
import Derived.Test.YtgnecacoehedkaaDoorZG6
import Derived.Test.YtgnecacoehedkaaDoorZG19
import Derived.Test.YtgnecacoehedkaaDoorZG12
namespace Go.Proofs.YtgnecacoehedkaaDoor
open Go.ChangeShapes Go.WideShapes Go.ChangeAt Go.RowKit
attribute [local go_sem ↓] run_mn
attribute [local go_sem ↓] run_mx
abbrev oFtS0 : Oper := { dst := some 96, op := .move (.tmp 0), type := 84, pos := "l05_layout.go:230", after := #[], guard := none }
abbrev oFtS1 : Oper := { dst := some 97, op := .nilCheck (.tmp 96), type := 0, pos := "l05_layout.go:230", after := #[{ on := 0, ground := .data }], guard := none }
abbrev oFtS2 : Oper := { dst := some 98, op := .fieldAddr 100 (.tmp 97) 2, type := 0, pos := "l05_layout.go:230", after := #[{ on := 1, ground := .data }], guard := none }
abbrev oFtS3 : Oper := { dst := some 99, op := .load 4 (.tmp 98), type := 4, pos := "l05_layout.go:230", after := #[{ on := 2, ground := .data }], guard := none }
abbrev oFtS4 : Oper := { dst := some 100, op := .move (.tmp 0), type := 84, pos := "l05_layout.go:230", after := #[], guard := none }
abbrev oFtS5 : Oper := { dst := some 101, op := .nilCheck (.tmp 100), type := 0, pos := "l05_layout.go:230", after := #[{ on := 4, ground := .data }], guard := none }
abbrev oFtS6 : Oper := { dst := some 102, op := .fieldAddr 100 (.tmp 101) 1, type := 0, pos := "l05_layout.go:230", after := #[{ on := 5, ground := .data }], guard := none }
abbrev oFtS7 : Oper := { dst := some 103, op := .load 3 (.tmp 102), type := 3, pos := "l05_layout.go:230", after := #[{ on := 6, ground := .data }], guard := none }
abbrev oFtS8 : Oper := { dst := some 104, op := .build 53 #[(1, .tmp 99), (2, .tmp 103)], type := 53, pos := "l05_layout.go:230", after := #[{ on := 3, ground := .data }, { on := 7, ground := .data }], guard := none }
abbrev oFtS9 : Oper := { dst := some 105, op := .move (.tmp 1), type := 3, pos := "l05_layout.go:230", after := #[], guard := none }
abbrev oFtS10 : Oper := { dst := some 106, op := .move (.tmp 2), type := 3, pos := "l05_layout.go:230", after := #[], guard := none }
abbrev oFtS11 : Oper := { dst := some 107, op := .call { callee := .value (.func 35), args := #[.tmp 104, .tmp 105, .tmp 106], argTypes := #[53, 3, 3] }, type := 69, pos := "l05_layout.go:230", after := #[{ on := 8, ground := .data }, { on := 9, ground := .data }, { on := 10, ground := .data }], guard := none }
abbrev oFtS12 : Oper := { dst := some 95, op := .move (.tmp 107), type := 69, pos := "l05_layout.go:230", after := #[{ on := 11, ground := .data }], guard := none }
abbrev oFtS13 : Oper := { dst := some 108, op := .extract (.tmp 95) 0, type := 3, pos := "l05_layout.go:230", after := #[{ on := 12, ground := .data }], guard := none }
abbrev oFtS14 : Oper := { dst := some 109, op := .extract (.tmp 95) 1, type := 3, pos := "l05_layout.go:230", after := #[{ on := 12, ground := .data }, { on := 17, ground := .gcOnly Go.Departure.lateStores }], guard := none }
abbrev oFtS15 : Oper := { dst := some 110, op := .extract (.tmp 95) 2, type := 3, pos := "l05_layout.go:230", after := #[{ on := 12, ground := .data }, { on := 18, ground := .gcOnly Go.Departure.lateStores }], guard := none }
abbrev oFtS16 : Oper := { dst := some 111, op := .extract (.tmp 95) 3, type := 3, pos := "l05_layout.go:230", after := #[{ on := 12, ground := .data }, { on := 19, ground := .gcOnly Go.Departure.lateStores }], guard := none }
abbrev oFtS17 : Oper := { dst := some 11, op := .assign (.tmp 108), type := 3, pos := "l05_layout.go:230", after := #[{ on := 13, ground := .data }, { on := 11, ground := .chain }, { on := 0, ground := .phase }, { on := 1, ground := .phase }, { on := 2, ground := .phase }, { on := 3, ground := .phase }, { on := 4, ground := .phase }, { on := 5, ground := .phase }, { on := 6, ground := .phase }, { on := 7, ground := .phase }, { on := 8, ground := .phase }, { on := 9, ground := .phase }, { on := 10, ground := .phase }, { on := 11, ground := .phase }, { on := 12, ground := .phase }, { on := 13, ground := .phase }, { on := 14, ground := .textOnly Go.Departure.lateStores }, { on := 15, ground := .textOnly Go.Departure.lateStores }, { on := 16, ground := .textOnly Go.Departure.lateStores }], guard := none }
abbrev oFtS18 : Oper := { dst := some 12, op := .assign (.tmp 109), type := 3, pos := "l05_layout.go:230", after := #[{ on := 14, ground := .data }, { on := 17, ground := .chain }, { on := 0, ground := .phase }, { on := 1, ground := .phase }, { on := 2, ground := .phase }, { on := 3, ground := .phase }, { on := 4, ground := .phase }, { on := 5, ground := .phase }, { on := 6, ground := .phase }, { on := 7, ground := .phase }, { on := 8, ground := .phase }, { on := 9, ground := .phase }, { on := 10, ground := .phase }, { on := 11, ground := .phase }, { on := 12, ground := .phase }, { on := 13, ground := .phase }, { on := 14, ground := .phase }, { on := 15, ground := .textOnly Go.Departure.lateStores }, { on := 16, ground := .textOnly Go.Departure.lateStores }, { on := 17, ground := .phase }], guard := none }
abbrev oFtS19 : Oper := { dst := some 13, op := .assign (.tmp 110), type := 3, pos := "l05_layout.go:230", after := #[{ on := 15, ground := .data }, { on := 18, ground := .chain }, { on := 0, ground := .phase }, { on := 1, ground := .phase }, { on := 2, ground := .phase }, { on := 3, ground := .phase }, { on := 4, ground := .phase }, { on := 5, ground := .phase }, { on := 6, ground := .phase }, { on := 7, ground := .phase }, { on := 8, ground := .phase }, { on := 9, ground := .phase }, { on := 10, ground := .phase }, { on := 11, ground := .phase }, { on := 12, ground := .phase }, { on := 13, ground := .phase }, { on := 14, ground := .phase }, { on := 15, ground := .phase }, { on := 16, ground := .textOnly Go.Departure.lateStores }, { on := 17, ground := .phase }, { on := 18, ground := .phase }], guard := none }
abbrev oFtS20 : Oper := { dst := some 14, op := .assign (.tmp 111), type := 3, pos := "l05_layout.go:230", after := #[{ on := 16, ground := .data }, { on := 19, ground := .chain }, { on := 0, ground := .phase }, { on := 1, ground := .phase }, { on := 2, ground := .phase }, { on := 3, ground := .phase }, { on := 4, ground := .phase }, { on := 5, ground := .phase }, { on := 6, ground := .phase }, { on := 7, ground := .phase }, { on := 8, ground := .phase }, { on := 9, ground := .phase }, { on := 10, ground := .phase }, { on := 11, ground := .phase }, { on := 12, ground := .phase }, { on := 13, ground := .phase }, { on := 14, ground := .phase }, { on := 15, ground := .phase }, { on := 16, ground := .phase }, { on := 17, ground := .phase }, { on := 18, ground := .phase }, { on := 19, ground := .phase }], guard := none }
set_option maxHeartbeats 1000000 in
set_option maxRecDepth 100000 in
theorem sleast : ∀ (t : Tr) (b : Nat) (bs : List Nat) (w : World), TreeAt sBx w t b bs → t.cnt ≤ 1000 →
  Calls Tryd.prog 64 #[.pointer (some ⟨b, 0, none⟩)] w fun e w' => e = .returned (.tuple #[.int .i64 t.lw, .int .i64 t.lh]) ∧ w' = w := by
 intro t
 induction t using Tr.ind with
 | pane n =>
  intro b bs w ht hcnt
  obtain ⟨rfl, hbf⟩ := ht
  have c3 : w.cell? ⟨b, 3, none⟩ = some (.bool true) := hbf.S 3
  clear hbf
  go_enter Tryd.func64, Tryd.ntmps64
  go_wp2_with fail
  go_ret2
  exact ⟨rfl, rfl⟩
 | split r s l t ihl ihr =>
  intro b bs w ht hcnt
  obtain ⟨bl, br, Ls, Rs, rfl, hbf, htl, htr⟩ := ht
  have c2 : w.cell? ⟨b, 2, none⟩ = some (.bool r) := hbf.S 2
  have c3 : w.cell? ⟨b, 3, none⟩ = some (.bool false) := hbf.S 3
  have c4 : w.cell? ⟨b, 4, none⟩ = some (.pointer (some ⟨bl, 0, none⟩)) := hbf.S 4
  have c5 : w.cell? ⟨b, 5, none⟩ = some (.pointer (some ⟨br, 0, none⟩)) := hbf.S 5
  simp only [Tr.cnt] at hcnt
  have T1 := hide (ihl bl Ls w htl (by omega))
  have T2 := hide (ihr br Rs w htr (by omega))
  have bl1 := least_bd l
  have bl2 := least_bd t
  have bd : l.lw ≤ 2000 ∧ l.lh ≤ 2000 ∧ t.lw ≤ 2000 ∧ t.lh ≤ 2000 := by omega
  clear hbf htl htr ihl ihr hcnt
  cases r
  all_goals
   simp only [Tr.lw, Tr.lh, Bool.false_eq_true, if_false, if_true]
   go_enter Tryd.func64, Tryd.ntmps64
   go_wp2_with fail
   refine (unhide T1).mono ?_
   rintro e w1 ⟨rfl, rfl⟩
   go_wp2_with fail
   refine (unhide T2).mono ?_
   rintro e w2 ⟨rfl, rfl⟩
   go_wp2_with fail
   go_ret2
   exact ⟨rfl, rfl⟩
set_option maxHeartbeats 4000000 in
set_option maxRecDepth 100000 in
theorem sfit : ∀ (t : Tr) (b : Nat) (bs : List Nat) (W H : Int) (w : World), TreeAt sBx w t b bs → bs.Nodup → W ≤ 1000 → H ≤ 1000 → t.lw ≤ W → t.lh ≤ H → t.cnt ≤ 1000 →
  Calls Tryd.prog 57 #[.pointer (some ⟨b, 0, none⟩), .int .i64 W, .int .i64 H] w fun e w' => e = .returned (.bool true) ∧ TreeAt sBx w' (t.fit W H) b bs ∧ Turned w w' bs := by
 intro t
 induction t using Tr.ind with
 | pane n =>
  intro b bs W H w ht hnd h1 h2 hw hh hcnt
  obtain ⟨rfl, hbf⟩ := ht
  have c3 : w.cell? ⟨b, 3, none⟩ = some (.bool true) := hbf.S 3
  have HBF := hide hbf
  have hw' : 2 ≤ W := hw
  have hh' : 2 ≤ H := hh
  have q1 : decide (2 ≤ W) = true := decide_eq_true hw'
  have q2 : decide (2 ≤ H) = true := decide_eq_true hh'
  clear hbf hw hh
  go_enter Tryd.func57, Tryd.ntmps57
  go_wp2_with fail
  go_ret
  exact ⟨ret_bool (by simp [*]), ⟨rfl, unhide HBF⟩, Turned.refl _ _⟩
 | split r s l t ihl ihr =>
  intro b bs W H w ht hnd h1 h2 hw hh hcnt
  obtain ⟨bl, br, Ls, Rs, rfl, hbf, htl, htr⟩ := ht
  rw [List.nodup_cons, List.mem_append, List.nodup_append] at hnd
  obtain ⟨nb, nl, nr, nlr⟩ := hnd
  have NBL : Hid (b ∉ Ls) := fun h => nb (.inl h)
  have NBR : Hid (b ∉ Rs) := fun h => nb (.inr h)
  have NLR : Hid (∀ k ∈ Ls, ∀ c ∈ Rs, k = c → False) := fun k hk c hc e => nlr k hk c hc e
  have HBF := hide hbf
  have HTL := hide htl
  have HTR := hide htr
  have c1 : w.cell? ⟨b, 1, none⟩ = some (.int .i64 s) := hbf.S 1
  have c1f := hbf.F 1
  have c2 : w.cell? ⟨b, 2, none⟩ = some (.bool r) := hbf.S 2
  have c3 : w.cell? ⟨b, 3, none⟩ = some (.bool false) := hbf.S 3
  have c4 : w.cell? ⟨b, 4, none⟩ = some (.pointer (some ⟨bl, 0, none⟩)) := hbf.S 4
  have c5 : w.cell? ⟨b, 5, none⟩ = some (.pointer (some ⟨br, 0, none⟩)) := hbf.S 5
  simp only [Tr.cnt] at hcnt
  have bl1 := least_bd l
  have bl2 := least_bd t
  have LE1 := hide (fun w0 (h0 : TreeAt sBx w0 l bl Ls) => sleast l bl Ls w0 h0 (by omega))
  have LE2 := hide (fun w0 (h0 : TreeAt sBx w0 t br Rs) => sleast t br Rs w0 h0 (by omega))
  obtain ⟨aw, g1⟩ : ∃ x, x = l.lw := ⟨_, rfl⟩
  obtain ⟨ah, g2⟩ : ∃ x, x = l.lh := ⟨_, rfl⟩
  obtain ⟨cw, g3⟩ : ∃ x, x = t.lw := ⟨_, rfl⟩
  obtain ⟨ch, g4⟩ : ∃ x, x = t.lh := ⟨_, rfl⟩
  rw [← g1, ← g2] at LE1
  rw [← g3, ← g4] at LE2
  have bd : 2 ≤ aw ∧ aw ≤ 2000 ∧ 2 ≤ ah ∧ ah ≤ 2000 ∧ 2 ≤ cw ∧ cw ≤ 2000 ∧ 2 ≤ ch ∧ ch ≤ 2000 := by omega
  clear hbf htl htr nb nlr bl1 bl2
  cases r
  all_goals
   simp only [Tr.lw, Tr.lh, Bool.false_eq_true, if_false, if_true, ← g1, ← g2, ← g3, ← g4] at hw hh
  ·have hm := mx_le.1 hh
   obtain ⟨S, hS⟩ : ∃ S, S = ftS s aw (W - cw) := ⟨_, rfl⟩
   have hS2 : mn (mx s aw) (W - cw) = S := hS.symm
   have bS := ftS_bd (s := s) (a := aw) (z := W - cw) (by omega)
   rw [← hS] at bS
   have eF : (Tr.split false s l t).fit W H = .split false S (l.fit S H) (t.fit (W - S) H) := by rw [Tr.fit, hS, g1, g3]; rfl
   rw [eF]
   have hno : ¬ W < aw + cw := by omega
   have hno2 : ¬ H < mx ah ch := by omega
   have TP := hide (sparts ⟨0, false, S, 0, 0⟩ W H (by omega) (by omega))
   simp only [Bool.false_eq_true, if_false] at TP
   rw [szC_id (by omega)] at TP
   have G1 := hide ((unhide HBF).set 1 (by simp [sBx]) (.int .i64 S))
   have F1 : Hid (BF b (sBx.node false S bl br) (w.setCell ⟨b, 1, none⟩ (.int .i64 S))) := by show BF _ _ _; have := unhide G1; simp only [sBx] at this ⊢; simpa using this
   have TS : Hid (Turned w (w.setCell ⟨b, 1, none⟩ (.int .i64 S)) [b]) := Turned.set (by simp)
   have T1 : Hid (Turned w (w.setCell ⟨b, 1, none⟩ (.int .i64 S)) (b :: (Ls ++ Rs))) := Turned.set (by simp)
   have L1 := hide ((unhide HTL).turned (unhide TS) (fun k hk h => by simp at h; exact unhide NBL (h ▸ hk)))
   have R1 := hide ((unhide HTR).turned (unhide TS) (fun k hk h => by simp at h; exact unhide NBR (h ▸ hk)))
   have U1 := hide (fun w0 (h0 : TreeAt sBx w0 l bl Ls) => ihl bl Ls S H w0 h0 nl (by omega) (by omega) (by omega) (by omega) (by omega))
   have U2 := hide (fun w0 (h0 : TreeAt sBx w0 t br Rs) => ihr br Rs (W - S) H w0 h0 nr (by omega) (by omega) (by omega) (by omega) (by omega))
   have ew1 : IntKind.i64.wrap (W - S) = W - S := wrapi _ (by omega) (by omega)
   clear hS eF ihl ihr G1 TS g1 g2 g3 g4 hw hh
   go_enter Tryd.func57, Tryd.ntmps57
   go_wp2_with fail
   refine (unhide LE1 _ (unhide HTL)).mono ?_
   rintro e w0 ⟨rfl, rfl⟩
   go_wp2_with fail
   refine (unhide LE2 _ (unhide HTR)).mono ?_
   rintro e w0' ⟨rfl, rfl⟩
   go_wp2_with fail
   refine wp_region_held_drew (S := fun w' => w'.cell? ⟨b, 1, none⟩ = some (.int .i64 S) ∧ w'.cell? ⟨b, 2, none⟩ = some (.bool false)) (by kernel_rfl) ⟨(unhide F1).S 1, (unhide F1).S 2⟩ (fun hHeld => ?_)
   refine wtv 0 (oi := oFtS0) ?_
   refine wtv 1 (oi := oFtS1) ?_
   refine wtv 2 (oi := oFtS2) ?_
   refine wtv 3 (oi := oFtS3) ?_
   refine wtv 4 (oi := oFtS4) ?_
   refine wtv 5 (oi := oFtS5) ?_
   refine wtv 6 (oi := oFtS6) ?_
   refine wtv 7 (oi := oFtS7) ?_
   refine wtv 8 (oi := oFtS8) ?_
   refine wtv 9 (oi := oFtS9) ?_
   refine wtv 10 (oi := oFtS10) ?_
   refine wpAnyH_ready (rs := [11]) (by kernel_rfl) (by simp) ?_
   refine AllReadyH.cons (o := oFtS11) rfl (fun K hK => ?_) AllReadyH.nil
   go_simp
   refine (unhide TP _).mono ?_
   rintro e w2 ⟨rfl, hb2⟩
   have F2 := hide ((unhide F1).drew.below hb2)
   have L2 := hide ((unhide L1).drew.below hb2)
   have R2 := hide ((unhide R1).drew.below hb2)
   have T2 := hide ((unhide T1).trans (Turned.of_below (below_undrew hb2) _))
   clear hb2
   go_wp2_with fail
   refine hK.out _ _ ?_ (fun hHeld11 => ?_)
   ·exact ⟨(unhide F2).S 1, (unhide F2).S 2⟩
   clear hK K
   try simp only [Act.put, qqA, qqB, qqC]
   refine wtv 12 (oi := oFtS12) ?_
   refine wtv 13 (oi := oFtS13) ?_
   refine wtv 14 (oi := oFtS14) ?_
   refine wtv 15 (oi := oFtS15) ?_
   refine wtv 16 (oi := oFtS16) ?_
   refine wtv 17 (oi := oFtS17) ?_
   refine wtv 18 (oi := oFtS18) ?_
   refine wtv 19 (oi := oFtS19) ?_
   refine wtv 20 (oi := oFtS20) ?_
   refine wpAnyH_done (by kernel_rfl) ?_ _
   have d4 : w2.cell? ⟨b, 4, none⟩ = some (.pointer (some ⟨bl, 0, none⟩)) := (unhide F2).S 4
   go_wp2_with fail
   refine (unhide U1 _ (unhide L2)).mono ?_
   rintro e w3 ⟨rfl, ht3, hd3⟩
   have F3 := hide ((unhide F2).turned hd3 (unhide NBL))
   have L3 := hide ht3
   have R3 := hide ((unhide R2).turned hd3 (fun k hk h => unhide NLR k h k hk rfl))
   have T3 := hide ((unhide T2).trans (hd3.more (fun k hk => by simp [hk])))
   have d5 : w3.cell? ⟨b, 5, none⟩ = some (.pointer (some ⟨br, 0, none⟩)) := (unhide F3).S 5
   clear ht3 hd3
   go_wp2_with fail
   refine (unhide U2 _ (unhide R3)).mono ?_
   rintro e w4 ⟨rfl, ht4, hd4⟩
   have F4 := hide ((unhide F3).turned hd4 (unhide NBR))
   have R4 := hide ht4
   have L4 := hide ((unhide L3).turned hd4 (fun k hk h => unhide NLR k hk k h rfl))
   have T4 := hide ((unhide T3).trans (hd4.more (fun k hk => by simp [hk])))
   clear ht4 hd4
   go_wp2_with fail
   go_ret
   exact ⟨rfl, ⟨bl, br, Ls, Rs, rfl, unhide F4, unhide L4, unhide R4⟩, unhide T4⟩
  ·have hm := mx_le.1 hw
   obtain ⟨S, hS⟩ : ∃ S, S = ftS s ah (H - ch) := ⟨_, rfl⟩
   have hS2 : mn (mx s ah) (H - ch) = S := hS.symm
   have bS := ftS_bd (s := s) (a := ah) (z := H - ch) (by omega)
   rw [← hS] at bS
   have eF : (Tr.split true s l t).fit W H = .split true S (l.fit W S) (t.fit W (H - S)) := by rw [Tr.fit, hS, g2, g4]; rfl
   rw [eF]
   have hno : ¬ H < ah + ch := by omega
   have hno2 : ¬ W < mx aw cw := by omega
   have TP := hide (sparts ⟨0, true, S, 0, 0⟩ W H (by omega) (by omega))
   simp only [if_true] at TP
   rw [szC_id (by omega)] at TP
   have G1 := hide ((unhide HBF).set 1 (by simp [sBx]) (.int .i64 S))
   have F1 : Hid (BF b (sBx.node true S bl br) (w.setCell ⟨b, 1, none⟩ (.int .i64 S))) := by show BF _ _ _; have := unhide G1; simp only [sBx] at this ⊢; simpa using this
   have TS : Hid (Turned w (w.setCell ⟨b, 1, none⟩ (.int .i64 S)) [b]) := Turned.set (by simp)
   have T1 : Hid (Turned w (w.setCell ⟨b, 1, none⟩ (.int .i64 S)) (b :: (Ls ++ Rs))) := Turned.set (by simp)
   have L1 := hide ((unhide HTL).turned (unhide TS) (fun k hk h => by simp at h; exact unhide NBL (h ▸ hk)))
   have R1 := hide ((unhide HTR).turned (unhide TS) (fun k hk h => by simp at h; exact unhide NBR (h ▸ hk)))
   have U1 := hide (fun w0 (h0 : TreeAt sBx w0 l bl Ls) => ihl bl Ls W S w0 h0 nl (by omega) (by omega) (by omega) (by omega) (by omega))
   have U2 := hide (fun w0 (h0 : TreeAt sBx w0 t br Rs) => ihr br Rs W (H - S) w0 h0 nr (by omega) (by omega) (by omega) (by omega) (by omega))
   have ew1 : IntKind.i64.wrap (H - S) = H - S := wrapi _ (by omega) (by omega)
   clear hS eF ihl ihr G1 TS g1 g2 g3 g4 hw hh
   go_enter Tryd.func57, Tryd.ntmps57
   go_wp2_with fail
   refine (unhide LE1 _ (unhide HTL)).mono ?_
   rintro e w0 ⟨rfl, rfl⟩
   go_wp2_with fail
   refine (unhide LE2 _ (unhide HTR)).mono ?_
   rintro e w0' ⟨rfl, rfl⟩
   go_wp2_with fail
   refine wp_region_held_drew (S := fun w' => w'.cell? ⟨b, 1, none⟩ = some (.int .i64 S) ∧ w'.cell? ⟨b, 2, none⟩ = some (.bool true)) (by kernel_rfl) ⟨(unhide F1).S 1, (unhide F1).S 2⟩ (fun hHeld => ?_)
   refine wtv 0 (oi := oFtS0) ?_
   refine wtv 1 (oi := oFtS1) ?_
   refine wtv 2 (oi := oFtS2) ?_
   refine wtv 3 (oi := oFtS3) ?_
   refine wtv 4 (oi := oFtS4) ?_
   refine wtv 5 (oi := oFtS5) ?_
   refine wtv 6 (oi := oFtS6) ?_
   refine wtv 7 (oi := oFtS7) ?_
   refine wtv 8 (oi := oFtS8) ?_
   refine wtv 9 (oi := oFtS9) ?_
   refine wtv 10 (oi := oFtS10) ?_
   refine wpAnyH_ready (rs := [11]) (by kernel_rfl) (by simp) ?_
   refine AllReadyH.cons (o := oFtS11) rfl (fun K hK => ?_) AllReadyH.nil
   go_simp
   refine (unhide TP _).mono ?_
   rintro e w2 ⟨rfl, hb2⟩
   have F2 := hide ((unhide F1).drew.below hb2)
   have L2 := hide ((unhide L1).drew.below hb2)
   have R2 := hide ((unhide R1).drew.below hb2)
   have T2 := hide ((unhide T1).trans (Turned.of_below (below_undrew hb2) _))
   clear hb2
   go_wp2_with fail
   refine hK.out _ _ ?_ (fun hHeld11 => ?_)
   ·exact ⟨(unhide F2).S 1, (unhide F2).S 2⟩
   clear hK K
   try simp only [Act.put, qqA, qqB, qqC]
   refine wtv 12 (oi := oFtS12) ?_
   refine wtv 13 (oi := oFtS13) ?_
   refine wtv 14 (oi := oFtS14) ?_
   refine wtv 15 (oi := oFtS15) ?_
   refine wtv 16 (oi := oFtS16) ?_
   refine wtv 17 (oi := oFtS17) ?_
   refine wtv 18 (oi := oFtS18) ?_
   refine wtv 19 (oi := oFtS19) ?_
   refine wtv 20 (oi := oFtS20) ?_
   refine wpAnyH_done (by kernel_rfl) ?_ _
   have d4 : w2.cell? ⟨b, 4, none⟩ = some (.pointer (some ⟨bl, 0, none⟩)) := (unhide F2).S 4
   go_wp2_with fail
   refine (unhide U1 _ (unhide L2)).mono ?_
   rintro e w3 ⟨rfl, ht3, hd3⟩
   have F3 := hide ((unhide F2).turned hd3 (unhide NBL))
   have L3 := hide ht3
   have R3 := hide ((unhide R2).turned hd3 (fun k hk h => unhide NLR k h k hk rfl))
   have T3 := hide ((unhide T2).trans (hd3.more (fun k hk => by simp [hk])))
   have d5 : w3.cell? ⟨b, 5, none⟩ = some (.pointer (some ⟨br, 0, none⟩)) := (unhide F3).S 5
   clear ht3 hd3
   go_wp2_with fail
   refine (unhide U2 _ (unhide R3)).mono ?_
   rintro e w4 ⟨rfl, ht4, hd4⟩
   have F4 := hide ((unhide F3).turned hd4 (unhide NBR))
   have R4 := hide ht4
   have L4 := hide ((unhide L3).turned hd4 (fun k hk h => unhide NLR k hk k h rfl))
   have T4 := hide ((unhide T3).trans (hd4.more (fun k hk => by simp [hk])))
   clear ht4 hd4
   go_wp2_with fail
   go_ret
   exact ⟨rfl, ⟨bl, br, Ls, Rs, rfl, unhide F4, unhide L4, unhide R4⟩, unhide T4⟩
end Go.Proofs.YtgnecacoehedkaaDoor
