/- The specification's lead. -/
import Derived.Test.YtjlajpnhcphngaaZG30
import Derived.Test.YtjlajpnhcphngaaZG16
import Derived.Test.YtjlajpnhcphngaaZG15
namespace Go.Proofs.Ytjlajpnhcphngaa
open Go.ChangeShapes Go.WideShapes Go.ChangeAt Go.RowKit
set_option linter.unusedVariables false
abbrev oSlS0 : Oper := { dst := some 53, op := .load 27 (.tmp 52), type := 27, pos := "l08_raft.go:117", after := #[{ on := 4, ground := .data }], guard := none }
abbrev oSlS1 : Oper := { dst := some 60, op := .buildSlice 27 1 #[(0, .tmp 59)], type := 27, pos := "l08_raft.go:117", after := #[{ on := 11, ground := .data }], guard := none }
abbrev oSlS2 : Oper := { dst := some 61, op := .call { callee := .builtin Go.Builtin.append, args := #[.tmp 53, .tmp 60], argTypes := #[27, 27] }, type := 27, pos := "l08_raft.go:117", after := #[{ on := 5, ground := .data }, { on := 12, ground := .data }], guard := none }
abbrev oSlS3 : Oper := { dst := some 62, op := .nilCheck (.tmp 48), type := 0, pos := "l08_raft.go:117", after := #[{ on := 0, ground := .data }, { on := 0, ground := .phase }, { on := 1, ground := .phase }, { on := 2, ground := .phase }, { on := 3, ground := .phase }, { on := 4, ground := .phase }, { on := 5, ground := .phase }, { on := 6, ground := .phase }, { on := 7, ground := .phase }, { on := 8, ground := .phase }, { on := 9, ground := .phase }, { on := 10, ground := .phase }, { on := 11, ground := .phase }, { on := 12, ground := .phase }, { on := 13, ground := .phase }], guard := none }
abbrev oSlS4 : Oper := { dst := some 63, op := .fieldAddr 66 (.tmp 62) 0, type := 0, pos := "l08_raft.go:117", after := #[{ on := 14, ground := .data }, { on := 0, ground := .phase }, { on := 1, ground := .phase }, { on := 2, ground := .phase }, { on := 3, ground := .phase }, { on := 4, ground := .phase }, { on := 5, ground := .phase }, { on := 6, ground := .phase }, { on := 7, ground := .phase }, { on := 8, ground := .phase }, { on := 9, ground := .phase }, { on := 10, ground := .phase }, { on := 11, ground := .phase }, { on := 12, ground := .phase }, { on := 13, ground := .phase }], guard := none }
abbrev oSlS5 : Oper := { dst := some 64, op := .fieldAddr 29 (.tmp 63) 6, type := 0, pos := "l08_raft.go:117", after := #[{ on := 15, ground := .data }, { on := 0, ground := .phase }, { on := 1, ground := .phase }, { on := 2, ground := .phase }, { on := 3, ground := .phase }, { on := 4, ground := .phase }, { on := 5, ground := .phase }, { on := 6, ground := .phase }, { on := 7, ground := .phase }, { on := 8, ground := .phase }, { on := 9, ground := .phase }, { on := 10, ground := .phase }, { on := 11, ground := .phase }, { on := 12, ground := .phase }, { on := 13, ground := .phase }], guard := none }
abbrev oSlS6 : Oper := { dst := none, op := .store 27 (.tmp 64) (.tmp 61), type := 0, pos := "l08_raft.go:117", after := #[{ on := 16, ground := .data }, { on := 13, ground := .data }, { on := 13, ground := .chain }, { on := 0, ground := .phase }, { on := 1, ground := .phase }, { on := 2, ground := .phase }, { on := 3, ground := .phase }, { on := 4, ground := .phase }, { on := 5, ground := .phase }, { on := 6, ground := .phase }, { on := 7, ground := .phase }, { on := 8, ground := .phase }, { on := 9, ground := .phase }, { on := 10, ground := .phase }, { on := 11, ground := .phase }, { on := 12, ground := .phase }, { on := 13, ground := .phase }], guard := none }
theorem own_twoS {w w' : World} {base : Nat} {e : TypeId} {z : Nat} {v : Value} {n : Nat} {xs : List Value} {p : Nat} {row : Option Nat} (h : w.ownsRow base e z v n xs) (ht : Two p row w w') (hne : v.ownBlock ≠ some p) (hr : ∀ j, v.ownBlock = some j → row ≠ some j := by intro _ _ e; cases e) : w'.ownsRow base e z v n xs := by
  have hlt := h.lt
  obtain ⟨h1, h2⟩ := h
  refine ⟨h1, ?_⟩
  rcases h2 with h2 | ⟨g, cap, cur, rfl, hbg, hgc, hrest⟩
  · exact .inl h2
  · exact .inr ⟨g, cap, cur, rfl, hbg, (ht.block g (hlt g rfl).2 (fun e => hne (by rw [e]; rfl)) (hr g rfl)).trans hgc, hrest⟩
theorem arr6s (x0 x1 x2 x3 x4 x5 x7 x8 x9 xa xb xc xd y z : Value) (o : Nat) (ho : o ≠ 6) : (#[x0, x1, x2, x3, x4, x5, y, x7, x8, x9, xa, xb, xc, xd] : Array Value)[o]? = (#[x0, x1, x2, x3, x4, x5, z, x7, x8, x9, xa, xb, xc, xd] : Array Value)[o]? := by
  rcases Nat.lt_or_ge o 14 with h | h
  · have hh : o = 0 ∨ o = 1 ∨ o = 2 ∨ o = 3 ∨ o = 4 ∨ o = 5 ∨ o = 7 ∨ o = 8 ∨ o = 9 ∨ o = 10 ∨ o = 11 ∨ o = 12 ∨ o = 13 := by omega
    rcases hh with rfl | rfl | rfl | rfl | rfl | rfl | rfl | rfl | rfl | rfl | rfl | rfl | rfl <;> rfl
  · rw [Array.getElem?_eq_none (by simpa using h), Array.getElem?_eq_none (by simpa using h)]
set_option maxHeartbeats 4000000 in
set_option maxRecDepth 100000 in
theorem slead (P lo : Nat) (id : Int) (nd : Nat) (tm vt ro : Int) (c : Nat) (el wt : Int) (up : Bool) (a : Option Addr) (cap n : Nat) (av : Option Addr) (cv nv bx cx bg cg bo co : Nat) (l : List Ent) (HN : Hid (l.length = n)) (hn : n ≤ 60) (hnc : n ≤ cap) (hnd : nd ≤ 5) (hcn : c ≤ n) (lx lg : List Int) (HNx : Hid (lx.length = nd)) (HNg : Hid (lg.length = nd)) (hlog : logB tm 1 l = true) (xv : List Value) (w : World) (hP : BF P #[.int .i64 id, .int .i64 (nd : Int), .int .i64 tm, .int .i64 vt, .int .i64 ro, .bool up, .slice a n cap, .int .i64 (c : Int), .int .i64 el, .int .i64 wt, .slice av nv cv, .slice (some ⟨bx, 0, none⟩) nd cx, .slice (some ⟨bg, 0, none⟩) nd cg, .slice (some ⟨bo, 0, none⟩) 0 co] w) (hlo : lo ≤ P) (hE : w.ownsRow lo 68 2 (.slice a n cap) n (cE l)) (hV : w.ownsRow lo 3 1 (.slice av nv cv) nv xv) (hX : w.ownsRow lo 3 1 (.slice (some ⟨bx, 0, none⟩) nd cx) nd (cI lx)) (hG : w.ownsRow lo 3 1 (.slice (some ⟨bg, 0, none⟩) nd cg) nd (cI lg)) (hO : w.ownsRow lo 54 9 (.slice (some ⟨bo, 0, none⟩) 0 co) 0 []) (hEP : (Value.slice a n cap).ownBlock ≠ some P) (hVP : (Value.slice av nv cv).ownBlock ≠ some P) (hNP : bx ≠ P ∧ bg ≠ P ∧ bo ≠ P) (hXG : bx ≠ bg) (hVX : ∀ j, (Value.slice av nv cv).ownBlock = some j → bx ≠ j ∧ bg ≠ j) :
    Calls Try.prog 61 #[.pointer (some ⟨P, 0, none⟩)] w fun e w' => ∃ ea ec a1 n1 c1 L1, e = .returned (.tuple #[]) ∧ BF P #[.int .i64 id, .int .i64 (nd : Int), .int .i64 tm, .int .i64 vt, .int .i64 2, .bool up, .slice ea (ldL tm l).length ec, .int .i64 ((advN id tm nd (ldL tm l) (List.replicate nd (0 : Int)) c (ldL tm l).length : Nat) : Int), .int .i64 0, .int .i64 wt, .slice av nv cv, .slice (some ⟨bx, 0, none⟩) nd cx, .slice (some ⟨bg, 0, none⟩) nd cg, .slice a1 n1 c1] w' ∧ w'.ownsRow lo 68 2 (.slice ea (ldL tm l).length ec) (ldL tm l).length (cE (ldL tm l)) ∧ w'.ownsRow lo 3 1 (.slice av nv cv) nv xv ∧ w'.ownsRow lo 3 1 (.slice (some ⟨bx, 0, none⟩) nd cx) nd (cI (List.replicate nd ((n : Int) + 1))) ∧ w'.ownsRow lo 3 1 (.slice (some ⟨bg, 0, none⟩) nd cg) nd (cI (List.replicate nd (0 : Int))) ∧ MOwn w' lo (.slice a1 n1 c1) L1 ∧ L1.map (·.1) = tls id tm ((advN id tm nd (ldL tm l) (List.replicate nd (0 : Int)) c (ldL tm l).length : Nat) : Int) (ldL tm l) (fun _ => n) nd ∧ Below lo w w' := by
  obtain ⟨ie, hie, hie0, hie1, hie2⟩ := info_parts Try.infE68
  have EP := hide hEP
  have VP := hide hVP
  have NP := hide hNP
  have XG := hide hXG
  have VX := hide hVX
  have LP := hide hlo
  have HLG := hide hlog
  obtain ⟨w1, hw1, hP1, hf1, hb1⟩ := put2 w hP (o1 := 4) (o2 := 8) (by simp) (by simp) (.int .i64 2) (.int .i64 0)
  have P1 : Hid (BF P #[.int .i64 id, .int .i64 (nd : Int), .int .i64 tm, .int .i64 vt, .int .i64 2, .bool up, .slice a n cap, .int .i64 (c : Int), .int .i64 0, .int .i64 wt, .slice av nv cv, .slice (some ⟨bx, 0, none⟩) nd cx, .slice (some ⟨bg, 0, none⟩) nd cg, .slice (some ⟨bo, 0, none⟩) 0 co] w1) := hP1
  have E1 := hide (own_farJ hE hf1 hEP)
  have V1 := hide (own_farJ hV hf1 hVP)
  have X1 : Hid (w1.ownsRow lo 3 1 (.slice (some ⟨bx, 0, none⟩) nd cx) nd (mix (cI lx) (cI (List.replicate nd ((n : Int) + 1))) 0)) := by rw [mix_zero]; exact own_farJ hX hf1 (fun h => (unhide NP).1 (Option.some.inj h))
  have G1 : Hid (w1.ownsRow lo 3 1 (.slice (some ⟨bg, 0, none⟩) nd cg) nd (mix (cI lg) (cI (List.replicate nd (0 : Int))) 0)) := by rw [mix_zero]; exact own_farJ hG hf1 (fun h => (unhide NP).2.1 (Option.some.inj h))
  have O1 := hide (own_farJ hO hf1 (fun h => (unhide NP).2.2 (Option.some.inj h)))
  have B1 : Hid (Below lo w w1) := hb1.mono hlo
  have HNX : Hid ((List.replicate nd ((n : Int) + 1)).length = nd) := by show _ = _; simp
  have HNG : Hid ((List.replicate nd (0 : Int)).length = nd) := by show _ = _; simp
  have e1 : IntKind.i64.wrap ((n : Int) + 1) = (n : Int) + 1 := wrapi _ (by omega) (by omega)
  have HW1 := hide hw1
  have kp := hP.S
  have kpf := hP.F
  clear hP hE hV hX hG hO hEP hVP hNP hXG hVX hlo hP1 hf1 hb1 hw1 hlog
  go_enter Try.func61, Try.ntmps61
  go_upto_region 2 with fail
  rw [← unhide HW1]
  clear kp kpf HW1
  go_wp2_with fail
  go_loopw [2] (fun i wr => ∃ k : Nat, k ≤ nd ∧ i = .int .i64 k ∧ Hid (BF P #[.int .i64 id, .int .i64 (nd : Int), .int .i64 tm, .int .i64 vt, .int .i64 2, .bool up, .slice a n cap, .int .i64 (c : Int), .int .i64 0, .int .i64 wt, .slice av nv cv, .slice (some ⟨bx, 0, none⟩) nd cx, .slice (some ⟨bg, 0, none⟩) nd cg, .slice (some ⟨bo, 0, none⟩) 0 co] wr) ∧ Hid (wr.ownsRow lo 3 1 (.slice (some ⟨bx, 0, none⟩) nd cx) nd (mix (cI lx) (cI (List.replicate nd ((n : Int) + 1))) k)) ∧ Hid (wr.ownsRow lo 3 1 (.slice (some ⟨bg, 0, none⟩) nd cg) nd (mix (cI lg) (cI (List.replicate nd (0 : Int))) k)) ∧ Hid (wr.ownsRow lo 68 2 (.slice a n cap) n (cE l)) ∧ Hid (wr.ownsRow lo 3 1 (.slice av nv cv) nv xv) ∧ Hid (wr.ownsRow lo 54 9 (.slice (some ⟨bo, 0, none⟩) 0 co) 0 []) ∧ Hid (Below lo w wr)) (fun i _ => nd - (intOf i).toNat)
  case atStart => exact ⟨0, by omega, rfl, P1, X1, G1, E1, V1, O1, B1⟩
  case round =>
    clear P1 X1 G1 E1 V1 O1 B1
    obtain ⟨k, hk, rfl, P4, X4, G4, E4, V4, O4, B4⟩ := hrel
    have kp := (unhide P4).S
    by_cases hlt : k < nd
    · have i1 : (k : Int) < (nd : Int) := by omega
      have i0 : (0 : Int) ≤ (k : Int) := by omega
      have bd := (Below.refl wr.heap.size wr).drew
      have Pd := hide ((unhide P4).below bd)
      have Xd := hide (((heldZ_of (unhide X4)).below bd (Nat.le_refl _)).own)
      have Gd := hide (((heldZ_of (unhide G4)).below bd (Nat.le_refl _)).own)
      have Ed := hide (((heldZ_of (unhide E4)).below bd (Nat.le_refl _)).own)
      have Vd := hide (((heldZ_of (unhide V4)).below bd (Nat.le_refl _)).own)
      have Od := hide (((heldZ_of (unhide O4)).below bd (Nat.le_refl _)).own)
      have Bd := hide ((unhide B4).trans (bd.mono (by have := (unhide P4).lt; have := unhide LP; omega)))
      clear P4 X4 G4 E4 V4 O4 B4 bd
      go_upto_region 5 with fail
      refine wp_region_held_drew (S := fun w' => ∀ o, w'.cell? ⟨P, o, none⟩ = (#[.int .i64 id, .int .i64 (nd : Int), .int .i64 tm, .int .i64 vt, .int .i64 2, .bool up, .slice a n cap, .int .i64 (c : Int), .int .i64 0, .int .i64 wt, .slice av nv cv, .slice (some ⟨bx, 0, none⟩) nd cx, .slice (some ⟨bg, 0, none⟩) nd cg, .slice (some ⟨bo, 0, none⟩) 0 co] : Array Value)[o]?) (by kernel_rfl) kp (fun hHeld => ?_)
      generalize wr.drew = u0 at Pd Xd Gd Ed Vd Od Bd hHeld ⊢
      refine wtk (i := 0) (oi := { dst := some 20, op := .move (.tmp 0), type := 64, pos := "l08_raft.go:113", after := #[], guard := none }) (v := ?_) rfl (Or.inl ⟨by rfl, ?_⟩) (by assumption) ?_
      rotate_left 1
      · (intro w' hSw; (try dsimp only at hSw); go_simp; try with_reducible rfl)
      try simp only [Act.put, qqA, qqB, qqC]
      refine wtk (i := 1) (oi := { dst := some 21, op := .nilCheck (.tmp 20), type := 0, pos := "l08_raft.go:113", after := #[{ on := 0, ground := .data }], guard := none }) (v := ?_) rfl (Or.inl ⟨by rfl, ?_⟩) (by assumption) ?_
      rotate_left 1
      · (intro w' hSw; (try dsimp only at hSw); go_simp; try with_reducible rfl)
      try simp only [Act.put, qqA, qqB, qqC]
      refine wtk (i := 2) (oi := { dst := some 22, op := .fieldAddr 66 (.tmp 21) 0, type := 0, pos := "l08_raft.go:113", after := #[{ on := 1, ground := .data }], guard := none }) (v := ?_) rfl (Or.inl ⟨by rfl, ?_⟩) (by assumption) ?_
      rotate_left 1
      · (intro w' hSw; (try dsimp only at hSw); go_simp; try with_reducible rfl)
      try simp only [Act.put, qqA, qqB, qqC]
      refine wtk (i := 3) (oi := { dst := some 23, op := .fieldAddr 29 (.tmp 22) 11, type := 0, pos := "l08_raft.go:113", after := #[{ on := 2, ground := .data }], guard := none }) (v := ?_) rfl (Or.inl ⟨by rfl, ?_⟩) (by assumption) ?_
      rotate_left 1
      · (intro w' hSw; (try dsimp only at hSw); go_simp; try with_reducible rfl)
      try simp only [Act.put, qqA, qqB, qqC]
      refine wtk (i := 4) (oi := { dst := some 24, op := .load 23 (.tmp 23), type := 23, pos := "l08_raft.go:113", after := #[{ on := 3, ground := .data }], guard := none }) (v := ?_) rfl (Or.inl ⟨by rfl, ?_⟩) (by assumption) ?_
      rotate_left 1
      · (intro w' hSw; (try dsimp only at hSw); go_simp; try with_reducible rfl)
      try simp only [Act.put, qqA, qqB, qqC]
      refine wtk (i := 5) (oi := { dst := some 25, op := .move (.tmp 2), type := 3, pos := "l08_raft.go:113", after := #[], guard := none }) (v := ?_) rfl (Or.inl ⟨by rfl, ?_⟩) (by assumption) ?_
      rotate_left 1
      · (intro w' hSw; (try dsimp only at hSw); go_simp; try with_reducible rfl)
      try simp only [Act.put, qqA, qqB, qqC]
      refine wtk (i := 6) (oi := { dst := some 26, op := .move (.tmp 0), type := 64, pos := "l08_raft.go:113", after := #[], guard := none }) (v := ?_) rfl (Or.inl ⟨by rfl, ?_⟩) (by assumption) ?_
      rotate_left 1
      · (intro w' hSw; (try dsimp only at hSw); go_simp; try with_reducible rfl)
      try simp only [Act.put, qqA, qqB, qqC]
      refine wtk (i := 7) (oi := { dst := some 27, op := .nilCheck (.tmp 26), type := 0, pos := "l08_raft.go:113", after := #[{ on := 6, ground := .data }], guard := none }) (v := ?_) rfl (Or.inl ⟨by rfl, ?_⟩) (by assumption) ?_
      rotate_left 1
      · (intro w' hSw; (try dsimp only at hSw); go_simp; try with_reducible rfl)
      try simp only [Act.put, qqA, qqB, qqC]
      refine wtk (i := 8) (oi := { dst := some 28, op := .fieldAddr 66 (.tmp 27) 0, type := 0, pos := "l08_raft.go:113", after := #[{ on := 7, ground := .data }], guard := none }) (v := ?_) rfl (Or.inl ⟨by rfl, ?_⟩) (by assumption) ?_
      rotate_left 1
      · (intro w' hSw; (try dsimp only at hSw); go_simp; try with_reducible rfl)
      try simp only [Act.put, qqA, qqB, qqC]
      refine wtk (i := 9) (oi := { dst := some 29, op := .fieldAddr 29 (.tmp 28) 6, type := 0, pos := "l08_raft.go:113", after := #[{ on := 8, ground := .data }], guard := none }) (v := ?_) rfl (Or.inl ⟨by rfl, ?_⟩) (by assumption) ?_
      rotate_left 1
      · (intro w' hSw; (try dsimp only at hSw); go_simp; try with_reducible rfl)
      try simp only [Act.put, qqA, qqB, qqC]
      refine wtk (i := 10) (oi := { dst := some 30, op := .load 27 (.tmp 29), type := 27, pos := "l08_raft.go:113", after := #[{ on := 9, ground := .data }], guard := none }) (v := ?_) rfl (Or.inl ⟨by rfl, ?_⟩) (by assumption) ?_
      rotate_left 1
      · (intro w' hSw; (try dsimp only at hSw); go_simp; try with_reducible rfl)
      try simp only [Act.put, qqA, qqB, qqC]
      refine wtk (i := 11) (oi := { dst := some 31, op := .call { callee := .builtin Go.Builtin.len, args := #[.tmp 30], argTypes := #[27] }, type := 3, pos := "l08_raft.go:113", after := #[{ on := 10, ground := .data }], guard := none }) (v := ?_) rfl (Or.inl ⟨by rfl, ?_⟩) (by assumption) ?_
      rotate_left 1
      · (intro w' hSw; (try dsimp only at hSw); go_simp; try with_reducible rfl)
      try simp only [Act.put, qqA, qqB, qqC]
      refine wtk (i := 12) (oi := { dst := some 32, op := .binOp .add 3 (.tmp 31) (.const (.int .i64 1)) 3, type := 3, pos := "l08_raft.go:113", after := #[{ on := 11, ground := .data }], guard := none }) (v := ?_) rfl (Or.inl ⟨by rfl, ?_⟩) (by assumption) ?_
      rotate_left 1
      · (intro w' hSw; (try dsimp only at hSw); go_simp; try with_reducible rfl)
      try simp only [Act.put, qqA, qqB, qqC]
      refine wtk (i := 13) (oi := { dst := some 33, op := .indexAddr 23 (.tmp 24) (.tmp 25), type := 0, pos := "l08_raft.go:113", after := #[{ on := 4, ground := .data }, { on := 5, ground := .data }, { on := 0, ground := .phase }, { on := 1, ground := .phase }, { on := 2, ground := .phase }, { on := 3, ground := .phase }, { on := 4, ground := .phase }, { on := 5, ground := .phase }, { on := 6, ground := .phase }, { on := 7, ground := .phase }, { on := 8, ground := .phase }, { on := 9, ground := .phase }, { on := 10, ground := .phase }, { on := 11, ground := .phase }, { on := 12, ground := .phase }], guard := none }) (v := ?_) rfl (Or.inl ⟨by rfl, ?_⟩) (by assumption) ?_
      rotate_left 1
      · (intro w' hSw; (try dsimp only at hSw); go_simp; try with_reducible rfl)
      try simp only [Act.put, qqA, qqB, qqC]
      refine wpAnyH_ready (rs := [14]) (by kernel_rfl) (by simp) ?_
      refine AllReadyH.cons (o := { dst := none, op := .store 3 (.tmp 33) (.tmp 32), type := 0, pos := "l08_raft.go:113", after := #[{ on := 13, ground := .data }, { on := 12, ground := .data }, { on := 0, ground := .phase }, { on := 1, ground := .phase }, { on := 2, ground := .phase }, { on := 3, ground := .phase }, { on := 4, ground := .phase }, { on := 5, ground := .phase }, { on := 6, ground := .phase }, { on := 7, ground := .phase }, { on := 8, ground := .phase }, { on := 9, ground := .phase }, { on := 10, ground := .phase }, { on := 11, ground := .phase }, { on := 12, ground := .phase }], guard := none }) rfl (fun K hK => ?_) AllReadyH.nil
      obtain ⟨cX, hcX⟩ := cell_of (xs := cI lx) (j := k) (by rw [cI_len, unhide HNx]; exact hlt)
      have kcX : u0.cell? ⟨bx, k, none⟩ = some cX := by have h := (unhide Xd).cellAt k (by omega); rw [mix_at _ _ _ (by rw [cI_len]; simp; omega), hcX] at h; exact h
      have kfX := (unhide Xd).frozenAt k
      obtain ⟨u1, hu1⟩ : ∃ u9, u9 = u0.setCell ⟨bx, k, none⟩ (.int .i64 ((n : Int) + 1)) := ⟨_, rfl⟩
      have X1 : Hid (u1.ownsRow lo 3 1 (.slice (some ⟨bx, 0, none⟩) nd cx) nd (mix (cI lx) (cI (List.replicate nd ((n : Int) + 1))) (k + 1))) := by
        have h := ((unhide Xd).stored k (.int .i64 ((n : Int) + 1))).1
        rw [mix_set _ _ k _ (by rw [cI_len, unhide HNx]; exact hlt) (by rw [cI_at _ k (by simp; exact hlt)]; simp)] at h
        rw [hu1]; exact h
      have hg : u0.grownBy u1 (some bx) := by rw [hu1]; exact stored_grown
      have P1 := hide ((unhide Pd).grown hg (fun e => (unhide NP).1 (Option.some.inj e)))
      have G1 := hide (own_grown (unhide Gd) hg (fun j hj e => unhide XG ((Option.some.inj e).trans (Option.some.inj hj).symm)))
      have E1 := hide (own_grown (unhide Ed) hg (fun j hj e => own_apartS (unhide Ed) (unhide Xd) (by decide) j hj e))
      have V1 := hide (own_grown (unhide Vd) hg (fun j hj e => (unhide VX j hj).1 (Option.some.inj e)))
      have O1 := hide (own_grown (unhide Od) hg (fun j hj e => own_apartS (unhide Od) (unhide Xd) (by decide) j hj e))
      have B1 := hide ((unhide Bd).grown hg (by have := (unhide Pd).lt; have := unhide LP; omega) (fun j hj => by have e := Option.some.inj hj; have := ((unhide Xd).lt bx rfl).1; omega))
      clear hg
      go_simp
      rw [← hu1]
      refine hK.out _ _ ?_ (fun hHeld14 => ?_)
      · exact (unhide P1).S
      clear hK K
      try simp only [Act.put, qqA, qqB, qqC]
      refine wpAnyH_done (by kernel_rfl) ?_ _
      clear hu1 kcX kfX hcX kp hHeld
      clear Pd Xd Gd Ed Vd Od Bd
      have kp := (unhide P1).S
      obtain ⟨cG, hcG⟩ := cell_of (xs := cI lg) (j := k) (by rw [cI_len, unhide HNg]; exact hlt)
      have kcG : u1.cell? ⟨bg, k, none⟩ = some cG := by have h := (unhide G1).cellAt k (by omega); rw [mix_at _ _ _ (by rw [cI_len]; simp; omega), hcG] at h; exact h
      have kfG := (unhide G1).frozenAt k
      obtain ⟨u2, hu2⟩ : ∃ u9, u9 = u1.setCell ⟨bg, k, none⟩ (.int .i64 0) := ⟨_, rfl⟩
      have G2 : Hid (u2.ownsRow lo 3 1 (.slice (some ⟨bg, 0, none⟩) nd cg) nd (mix (cI lg) (cI (List.replicate nd (0 : Int))) (k + 1))) := by
        have h := ((unhide G1).stored k (.int .i64 0)).1
        rw [mix_set _ _ k _ (by rw [cI_len, unhide HNg]; exact hlt) (by rw [cI_at _ k (by simp; exact hlt)]; simp)] at h
        rw [hu2]; exact h
      have hg : u1.grownBy u2 (some bg) := by rw [hu2]; exact stored_grown
      have P2 := hide ((unhide P1).grown hg (fun e => (unhide NP).2.1 (Option.some.inj e)))
      have X2 := hide (own_grown (unhide X1) hg (fun j hj e => unhide XG ((Option.some.inj hj).trans (Option.some.inj e).symm)))
      have E2 := hide (own_grown (unhide E1) hg (fun j hj e => own_apartS (unhide E1) (unhide G1) (by decide) j hj e))
      have V2 := hide (own_grown (unhide V1) hg (fun j hj e => (unhide VX j hj).2 (Option.some.inj e)))
      have O2 := hide (own_grown (unhide O1) hg (fun j hj e => own_apartS (unhide O1) (unhide G1) (by decide) j hj e))
      have B2 := hide ((unhide B1).grown hg (by have := (unhide P1).lt; have := unhide LP; omega) (fun j hj => by have e := Option.some.inj hj; have := ((unhide G1).lt bg rfl).1; omega))
      clear hg
      have HU2 := hide hu2
      clear hu2 P1 X1 G1 E1 V1 O1 B1 hcG
      go_wp2_with fail
      rw [← unhide HU2]
      clear kcG kfG HU2 kp
      go_roundw
      case rel => exact ⟨k + 1, by omega, by go_num, P2, X2, G2, E2, V2, O2, B2⟩
      case measure => simp [intOf]; omega
    · obtain rfl : k = nd := by omega
      have X4' : Hid (wr.ownsRow lo 3 1 (.slice (some ⟨bx, 0, none⟩) k cx) k (cI (List.replicate k ((n : Int) + 1)))) := by have h := unhide X4; rw [mix_all _ _ _ (by rw [cI_len, unhide HNx]; exact Nat.le_refl _) (by rw [cI_len]; simp)] at h; exact h
      have G4' : Hid (wr.ownsRow lo 3 1 (.slice (some ⟨bg, 0, none⟩) k cg) k (cI (List.replicate k (0 : Int)))) := by have h := unhide G4; rw [mix_all _ _ _ (by rw [cI_len, unhide HNg]; exact Nat.le_refl _) (by rw [cI_len]; simp)] at h; exact h
      clear X4 G4
      have X4 := X4'
      have G4 := G4'
      clear X4' G4'
      by_cases h60 : n < 60
      · have i60 : (n : Int) < 60 := by omega
        have HJ : Hid (∀ t (h : t < (List.replicate k ((n : Int) + 1)).length), (List.replicate k ((n : Int) + 1))[t] = (((fun _ => n) t : Nat) : Int) + 1 ∧ (fun _ => n) t ≤ n + 1) := fun t h => ⟨by simp, by simp⟩
        have bd := (Below.refl wr.heap.size wr).drew
        have P5 := hide ((unhide P4).below bd)
        have X5 := hide (((heldZ_of (unhide X4)).below bd (Nat.le_refl _)).own)
        have G5 := hide (((heldZ_of (unhide G4)).below bd (Nat.le_refl _)).own)
        have E5 := hide (((heldZ_of (unhide E4)).below bd (Nat.le_refl _)).own)
        have V5 := hide (((heldZ_of (unhide V4)).below bd (Nat.le_refl _)).own)
        have O5 := hide (((heldZ_of (unhide O4)).below bd (Nat.le_refl _)).own)
        have B5 := hide ((unhide B4).trans (bd.mono (by have := (unhide P4).lt; have := unhide LP; omega)))
        clear P4 X4 G4 E4 V4 O4 B4 bd
        obtain ⟨w4, hw4⟩ : ∃ w4, w4 = wr := ⟨_, rfl⟩
        rw [← hw4] at P5 X5 G5 E5 V5 O5 B5 kp ⊢
        clear hw4
        go_upto_region 8 with fail
        refine wp_region_held_drew (S := fun w' => ∀ o, o ≠ 6 → w'.cell? ⟨P, o, none⟩ = (#[.int .i64 id, .int .i64 (k : Int), .int .i64 tm, .int .i64 vt, .int .i64 2, .bool up, .slice a n cap, .int .i64 (c : Int), .int .i64 0, .int .i64 wt, .slice av nv cv, .slice (some ⟨bx, 0, none⟩) k cx, .slice (some ⟨bg, 0, none⟩) k cg, .slice (some ⟨bo, 0, none⟩) 0 co] : Array Value)[o]?) (by kernel_rfl) (fun o _ => kp o) (fun hHeld => ?_)
        generalize w4.drew = w5 at P5 X5 G5 E5 V5 O5 B5 hHeld ⊢
        refine wtk (i := 0) (oi := { dst := some 48, op := .move (.tmp 0), type := 64, pos := "l08_raft.go:117", after := #[], guard := none }) (v := ?_) rfl (Or.inl ⟨by rfl, ?_⟩) (by assumption) ?_
        rotate_left 1
        · (intro w' hSw; (try dsimp only at hSw); go_simp; try with_reducible rfl)
        try simp only [Act.put, qqA, qqB, qqC]
        refine wtk (i := 1) (oi := { dst := some 49, op := .move (.tmp 0), type := 64, pos := "l08_raft.go:117", after := #[], guard := none }) (v := ?_) rfl (Or.inl ⟨by rfl, ?_⟩) (by assumption) ?_
        rotate_left 1
        · (intro w' hSw; (try dsimp only at hSw); go_simp; try with_reducible rfl)
        try simp only [Act.put, qqA, qqB, qqC]
        refine wtk (i := 2) (oi := { dst := some 50, op := .nilCheck (.tmp 49), type := 0, pos := "l08_raft.go:117", after := #[{ on := 1, ground := .data }], guard := none }) (v := ?_) rfl (Or.inl ⟨by rfl, ?_⟩) (by assumption) ?_
        rotate_left 1
        · (intro w' hSw; (try dsimp only at hSw); go_simp; try with_reducible rfl)
        try simp only [Act.put, qqA, qqB, qqC]
        refine wtk (i := 3) (oi := { dst := some 51, op := .fieldAddr 66 (.tmp 50) 0, type := 0, pos := "l08_raft.go:117", after := #[{ on := 2, ground := .data }], guard := none }) (v := ?_) rfl (Or.inl ⟨by rfl, ?_⟩) (by assumption) ?_
        rotate_left 1
        · (intro w' hSw; (try dsimp only at hSw); go_simp; try with_reducible rfl)
        try simp only [Act.put, qqA, qqB, qqC]
        refine wtk (i := 4) (oi := { dst := some 52, op := .fieldAddr 29 (.tmp 51) 6, type := 0, pos := "l08_raft.go:117", after := #[{ on := 3, ground := .data }], guard := none }) (v := ?_) rfl (Or.inl ⟨by rfl, ?_⟩) (by assumption) ?_
        rotate_left 1
        · (intro w' hSw; (try dsimp only at hSw); go_simp; try with_reducible rfl)
        try simp only [Act.put, qqA, qqB, qqC]
        refine wtk (i := 6) (oi := { dst := some 54, op := .move (.tmp 0), type := 64, pos := "l08_raft.go:117", after := #[], guard := none }) (v := ?_) rfl (Or.inl ⟨by rfl, ?_⟩) (by assumption) ?_
        rotate_left 1
        · (intro w' hSw; (try dsimp only at hSw); go_simp; try with_reducible rfl)
        try simp only [Act.put, qqA, qqB, qqC]
        refine wtk (i := 7) (oi := { dst := some 55, op := .nilCheck (.tmp 54), type := 0, pos := "l08_raft.go:117", after := #[{ on := 6, ground := .data }], guard := none }) (v := ?_) rfl (Or.inl ⟨by rfl, ?_⟩) (by assumption) ?_
        rotate_left 1
        · (intro w' hSw; (try dsimp only at hSw); go_simp; try with_reducible rfl)
        try simp only [Act.put, qqA, qqB, qqC]
        refine wtk (i := 8) (oi := { dst := some 56, op := .fieldAddr 66 (.tmp 55) 0, type := 0, pos := "l08_raft.go:117", after := #[{ on := 7, ground := .data }], guard := none }) (v := ?_) rfl (Or.inl ⟨by rfl, ?_⟩) (by assumption) ?_
        rotate_left 1
        · (intro w' hSw; (try dsimp only at hSw); go_simp; try with_reducible rfl)
        try simp only [Act.put, qqA, qqB, qqC]
        refine wtk (i := 9) (oi := { dst := some 57, op := .fieldAddr 29 (.tmp 56) 2, type := 0, pos := "l08_raft.go:117", after := #[{ on := 8, ground := .data }], guard := none }) (v := ?_) rfl (Or.inl ⟨by rfl, ?_⟩) (by assumption) ?_
        rotate_left 1
        · (intro w' hSw; (try dsimp only at hSw); go_simp; try with_reducible rfl)
        try simp only [Act.put, qqA, qqB, qqC]
        refine wtk (i := 10) (oi := { dst := some 58, op := .load 3 (.tmp 57), type := 3, pos := "l08_raft.go:117", after := #[{ on := 9, ground := .data }], guard := none }) (v := ?_) rfl (Or.inl ⟨by rfl, ?_⟩) (by assumption) ?_
        rotate_left 1
        · (intro w' hSw; (try dsimp only at hSw); go_simp; try with_reducible rfl)
        try simp only [Act.put, qqA, qqB, qqC]
        refine wtk (i := 11) (oi := { dst := some 59, op := .build 68 #[(0, .tmp 58)], type := 68, pos := "l08_raft.go:117", after := #[{ on := 10, ground := .data }], guard := none }) (v := ?_) rfl (Or.inl ⟨by rfl, ?_⟩) (by assumption) ?_
        rotate_left 1
        · (intro w' hSw; (try dsimp only at hSw); go_simp; try with_reducible rfl)
        try simp only [Act.put, qqA, qqB, qqC]
        refine wpAnyH_ready (rs := [5, 12]) (by kernel_rfl) (by simp) ?_
        refine AllReadyH.cons (o := oSlS0) rfl (fun K hK => ?_) (AllReadyH.cons (o := oSlS1) rfl (fun K hK => ?_) AllReadyH.nil)
        · skip
          have kp5 := (unhide P5).S
          go_simp
          refine hK.out _ _ ?_ (fun hHeldL => ?_)
          · exact fun o _ => (unhide P5).S o
          clear hK K kp5
          try simp only [Act.put, qqA, qqB, qqC]
          refine wpAnyH_ready (rs := [12]) (by kernel_rfl) (by simp) ?_
          refine AllReadyH.cons (o := oSlS1) rfl (fun K hK => ?_) AllReadyH.nil
          obtain ⟨G, hG⟩ : ∃ G, G = w5.heap.size := ⟨_, rfl⟩
          have hb6 : Below w5.heap.size w5 (w5.alloc (.cells #[.int .i64 tm, .string ⟨#[]⟩] 68)) := Go.Joins.below_alloc1 w5 (.cells #[.int .i64 tm, .string ⟨#[]⟩] 68)
          have Q6 := hide (BF.new w5 #[.int .i64 tm, .string ⟨#[]⟩] 68)
          have P6 := hide ((unhide P5).below hb6)
          have X6 := hide (((heldZ_of (unhide X5)).below hb6 (Nat.le_refl _)).own)
          have G6 := hide (((heldZ_of (unhide G5)).below hb6 (Nat.le_refl _)).own)
          have E6 := hide (((heldZ_of (unhide E5)).below hb6 (Nat.le_refl _)).own)
          have V6 := hide (((heldZ_of (unhide V5)).below hb6 (Nat.le_refl _)).own)
          have O6 := hide (((heldZ_of (unhide O5)).below hb6 (Nat.le_refl _)).own)
          have B6 := hide ((unhide B5).trans (hb6.mono (by have := (unhide P5).lt; have := unhide LP; omega)))
          rw [← hG] at Q6
          go_simp
          refine hK.out _ _ ?_ (fun hHeldB => ?_)
          · exact fun o _ => (unhide P6).S o
          clear hK K
          try simp only [Act.put, qqA, qqB, qqC]
          rw [← hG]
          clear hb6 hG
          generalize w5.alloc (.cells #[.int .i64 tm, .string ⟨#[]⟩] 68) = w6 at Q6 P6 X6 G6 E6 V6 O6 B6 hHeldB ⊢
          refine wpAnyH_ready (rs := [13]) (by kernel_rfl) (by simp) ?_
          refine AllReadyH.cons (o := oSlS2) rfl (fun K hK => ?_) AllReadyH.nil
          have z6 : lo ≤ w6.heap.size := by have := (unhide P6).lt; have := unhide LP; omega
          refine step_append_lies w6 rfl (.tmp 53) (.tmp 60) 27 rfl lo 68 ie (.agg #[.int .i64 0, .string ⟨#[]⟩]) 2 24 Try.underlying27 hie hie0 hie1 hie2 rfl (by decide) (.slice a n cap) n (cE l) rfl (unhide E6) ⟨G, 0, none⟩ 1 1 [.int .i64 tm, .string ⟨#[]⟩] rfl rfl (by intro j u hj; have e := (unhide Q6).S j; rw [show (⟨G, 0, none⟩ : Addr).add j = ⟨G, j, none⟩ from (by unfold Addr.add; split <;> simp_all)]; rw [e]; simpa using hj) (by intro u hu; simp at hu; rcases hu with rfl | rfl <;> rfl) (by decide) (by unfold maxLen; omega) (by omega) z6 _ rfl ?_
          intro g7 c7 w7 ho7 hg7 hat7 hlt7
          have P7 := hide ((unhide P6).grown hg7 (unhide EP))
          have X7 := hide (own_grown (unhide X6) hg7 (fun j hj e => own_apartS (unhide E6) (unhide X6) (by decide) j e hj))
          have G7 := hide (own_grown (unhide G6) hg7 (fun j hj e => own_apartS (unhide E6) (unhide G6) (by decide) j e hj))
          have V7 := hide (own_grown (unhide V6) hg7 (fun j hj e => own_apartS (unhide E6) (unhide V6) (by decide) j e hj))
          have O7 := hide (own_grown (unhide O6) hg7 (fun j hj e => own_apartS (unhide E6) (unhide O6) (by decide) j e hj))
          have B7 := hide ((unhide B6).grown hg7 z6 (fun j hj => ((unhide E6).lt j hj).1))
          have F7 : Hid (g7 ≠ P ∧ g7 ≠ bo) := by
            show _ ∧ _
            rcases hat7 with h | h
            · exact ⟨fun e => unhide EP (by rw [h, e]), fun e => own_apartS (unhide E6) (unhide O6) (by decide) g7 h (by rw [e]; rfl)⟩
            · have h1 := (unhide P6).lt; have h2 := ((unhide O6).lt bo rfl).2; exact ⟨by omega, by omega⟩
          have cc7 : n + 1 ≤ c7 := by
            rcases ho7.2 with ⟨hx0, _⟩ | ⟨gq, cq, cur, hvq, _, _, hnc, _⟩
            · cases hx0
            · injection hvq with _ _ e3; rw [e3]; exact hnc
          have E7 : Hid (w7.ownsRow lo 68 2 (.slice (some ⟨g7, 0, none⟩) (n + 1) c7) (n + 1) (cE (l ++ [(tm, (⟨#[]⟩ : ByteArray))]))) := by show World.ownsRow _ _ _ _ _ _ _; rw [cE_app]; exact ho7
          clear ho7 hg7 hat7 hlt7 P6 X6 G6 E6 V6 O6 B6 Q6 z6
          refine hK.out _ _ ?_ (fun hHeld13 => ?_)
          · exact fun o _ => (unhide P7).S o
          clear hK K
          try simp only [Act.put, qqA, qqB, qqC]
          refine wtk (i := 14) (oi := oSlS3) (v := ?_) rfl (Or.inl ⟨by rfl, ?_⟩) (by assumption) ?_
          rotate_left 1
          · (intro w' hSw; (try dsimp only at hSw); go_simp; try with_reducible rfl)
          try simp only [Act.put, qqA, qqB, qqC]
          refine wtk (i := 15) (oi := oSlS4) (v := ?_) rfl (Or.inl ⟨by rfl, ?_⟩) (by assumption) ?_
          rotate_left 1
          · (intro w' hSw; (try dsimp only at hSw); go_simp; try with_reducible rfl)
          try simp only [Act.put, qqA, qqB, qqC]
          refine wtk (i := 16) (oi := oSlS5) (v := ?_) rfl (Or.inl ⟨by rfl, ?_⟩) (by assumption) ?_
          rotate_left 1
          · (intro w' hSw; (try dsimp only at hSw); go_simp; try with_reducible rfl)
          try simp only [Act.put, qqA, qqB, qqC]
          refine wpAnyH_ready (rs := [17]) (by kernel_rfl) (by simp) ?_
          refine AllReadyH.cons (o := oSlS6) rfl (fun K hK => ?_) AllReadyH.nil
          have kp7 := (unhide P7).S
          have kpf := (unhide P7).F
          obtain ⟨w8, hw8⟩ : ∃ w8, w8 = w7.setCell ⟨P, 6, none⟩ (.slice (some ⟨g7, 0, none⟩) (n + 1) c7) := ⟨_, rfl⟩
          have P8 : Hid (BF P #[.int .i64 id, .int .i64 (k : Int), .int .i64 tm, .int .i64 vt, .int .i64 2, .bool up, .slice (some ⟨g7, 0, none⟩) (n + 1) c7, .int .i64 (c : Int), .int .i64 0, .int .i64 wt, .slice av nv cv, .slice (some ⟨bx, 0, none⟩) k cx, .slice (some ⟨bg, 0, none⟩) k cg, .slice (some ⟨bo, 0, none⟩) 0 co] w8) := by rw [hw8]; exact (unhide P7).set 6 (by simp) _
          have hf8 : ∀ k, k ≠ P → w8.heap[k]? = w7.heap[k]? := fun k hk => by rw [hw8]; exact Below.heap_setCell _ _ _ _ hk
          have E8 := hide (own_keepB (unhide E7) (hf8 g7 (unhide F7).1))
          have X8 := hide (own_farJ (unhide X7) hf8 (fun h => (unhide NP).1 (Option.some.inj h)))
          have G8 := hide (own_farJ (unhide G7) hf8 (fun h => (unhide NP).2.1 (Option.some.inj h)))
          have V8 := hide (own_farJ (unhide V7) hf8 (unhide VP))
          have O8 := hide (own_farJ (unhide O7) hf8 (fun h => (unhide NP).2.2 (Option.some.inj h)))
          have B8 : Hid (Below lo w w8) := by rw [hw8]; exact Below.setCell (unhide B7) (unhide LP) _
          have k8 : ∀ o, o ≠ 6 → w8.cell? ⟨P, o, none⟩ = (#[.int .i64 id, .int .i64 (k : Int), .int .i64 tm, .int .i64 vt, .int .i64 2, .bool up, .slice a n cap, .int .i64 (c : Int), .int .i64 0, .int .i64 wt, .slice av nv cv, .slice (some ⟨bx, 0, none⟩) k cx, .slice (some ⟨bg, 0, none⟩) k cg, .slice (some ⟨bo, 0, none⟩) 0 co] : Array Value)[o]? := fun o ho => by rw [(unhide P8).S o]; exact arr6s _ _ _ _ _ _ _ _ _ _ _ _ _ _ _ o ho
          go_simp
          rw [← hw8]
          refine hK.out _ _ ?_ (fun hHeld17 => ?_)
          · exact k8
          clear hK K
          try simp only [Act.put, qqA, qqB, qqC]
          refine wpAnyH_done (by kernel_rfl) ?_ _
          clear kp7 kpf hw8 hf8 k8 P7 X7 G7 E7 V7 O7 B7 hHeld kp
          have HN8 : Hid ((l ++ [(tm, (⟨#[]⟩ : ByteArray))]).length = n + 1) := by show _ = _; rw [List.length_append, unhide HN]; rfl
          have HL8 : Hid (l ++ [(tm, (⟨#[]⟩ : ByteArray))] = ldL tm l) := by show _ = _; unfold ldL; rw [if_pos (by rw [unhide HN]; exact h60)]
          have HM8 : Hid (∀ k, k ≤ n + 1 → tAt (l ++ [(tm, (⟨#[]⟩ : ByteArray))]) k ≠ tm → ∀ j, 0 < j → j ≤ k → tAt (l ++ [(tm, (⟨#[]⟩ : ByteArray))]) j ≠ tm) := fun k hk => own_lastA (unhide HLG) k (by have := unhide HN; omega)
          have NE8 : Hid ((Value.slice (some ⟨g7, 0, none⟩) (n + 1) c7).ownBlock ≠ some P) := fun h => (unhide F7).1 (Option.some.inj h)
          have OE8 : Hid (OffA P (some bo) (some ⟨g7, 0, none⟩)) := fun x hx => by injection hx with hx; subst hx; exact ⟨(unhide F7).1, fun e => (unhide F7).2 (Option.some.inj e).symm⟩
          go_wp2_with fail
          refine (sadvance P id k tm vt 2 c 0 wt up (some ⟨g7, 0, none⟩) c7 (n + 1) av cv nv (some ⟨bx, 0, none⟩) cx k (some ⟨bg, 0, none⟩) cg k (.slice (some ⟨bo, 0, none⟩) 0 co) (l ++ [(tm, (⟨#[]⟩ : ByteArray))]) HN8 (by omega) (List.replicate k (0 : Int)) HNG rfl hnd (by omega) HM8 w8 (unhide P8) (rowZ_at (unhide E8)) (rowZ_at (unhide G8))).mono ?_
          rintro e w9 ⟨rfl, hP9, hg9⟩
          obtain ⟨CN, hCN⟩ : ∃ CN : Nat, CN = advN id tm k (l ++ [(tm, (⟨#[]⟩ : ByteArray))]) (List.replicate k (0 : Int)) c (n + 1) := ⟨_, rfl⟩
          rw [← hCN] at hP9
          have P9 := hide hP9
          have HCN := hide hCN
          have E9 := hide (own_grown (unhide E8) hg9 (fun j hj e => unhide NE8 (hj.trans e.symm)))
          have X9 := hide (own_grown (unhide X8) hg9 (fun j hj e => (fun h => (unhide NP).1 (Option.some.inj h)) (hj.trans e.symm)))
          have G9 := hide (own_grown (unhide G8) hg9 (fun j hj e => (fun h => (unhide NP).2.1 (Option.some.inj h)) (hj.trans e.symm)))
          have V9 := hide (own_grown (unhide V8) hg9 (fun j hj e => unhide VP (hj.trans e.symm)))
          have O9 := hide (own_grown (unhide O8) hg9 (fun j hj e => (fun h => (unhide NP).2.2 (Option.some.inj h)) (hj.trans e.symm)))
          have B9 := hide ((unhide B8).grown hg9 (by have := (unhide P8).lt; have := unhide LP; omega) (fun j hj => by have e := Option.some.inj hj; have := unhide LP; omega))
          have lz9 : lo ≤ w9.heap.size := by have := (unhide P9).lt; have := unhide LP; omega
          clear hP9 hg9 hCN P8 X8 G8 E8 V8 O8 B8
          go_wp2_with fail
          refine (sall P id k tm vt 2 CN 0 wt up (some ⟨g7, 0, none⟩) c7 (n + 1) av cv nv (some ⟨bx, 0, none⟩) cx k (some ⟨bg, 0, none⟩) cg k (some ⟨bo, 0, none⟩) 0 co lo [] rfl (by decide) (l ++ [(tm, (⟨#[]⟩ : ByteArray))]) HN8 (by omega) (List.replicate k ((n : Int) + 1)) (fun _ => n) HJ HNX hnd rfl cc7 w9 (unhide P9) ⟨unhide O9, (fun p hp => by cases hp), List.Pairwise.nil, (fun p hp => by cases hp)⟩ lz9 (fun h => (unhide NP).2.2 (Option.some.inj h)) (fun x hx => by cases hx) (rowZ_at (unhide E9)) (rowZ_at (unhide X9)) (unhide OE8) (fun x hx => by injection hx with hx; subst hx; exact ⟨(unhide NP).1, fun e => own_apartS (unhide O9) (unhide X9) (by decide) bo rfl (by have e1 : bo = bx := Option.some.inj e; rw [e1]; rfl)⟩)).mono ?_
          rintro e w10 ⟨a1, n1, c1, L1, rfl, hP10, hM10, hL10, hT10⟩
          rw [List.nil_append] at hM10
          have FIN : Hid (BF P #[.int .i64 id, .int .i64 (k : Int), .int .i64 tm, .int .i64 vt, .int .i64 2, .bool up, .slice (some ⟨g7, 0, none⟩) (n + 1) c7, .int .i64 (CN : Int), .int .i64 0, .int .i64 wt, .slice av nv cv, .slice (some ⟨bx, 0, none⟩) k cx, .slice (some ⟨bg, 0, none⟩) k cg, .slice a1 n1 c1] w10 ∧ w10.ownsRow lo 68 2 (.slice (some ⟨g7, 0, none⟩) (n + 1) c7) (n + 1) (cE (l ++ [(tm, (⟨#[]⟩ : ByteArray))])) ∧ w10.ownsRow lo 3 1 (.slice av nv cv) nv xv ∧ w10.ownsRow lo 3 1 (.slice (some ⟨bx, 0, none⟩) k cx) k (cI (List.replicate k ((n : Int) + 1))) ∧ w10.ownsRow lo 3 1 (.slice (some ⟨bg, 0, none⟩) k cg) k (cI (List.replicate k (0 : Int))) ∧ MOwn w10 lo (.slice a1 n1 c1) L1 ∧ Below lo w w10) := by
            have nvo : ∀ j, (Value.slice av nv cv).ownBlock = some j → (some bo : Option Nat) ≠ some j := fun j hj e => own_apartS (unhide V9) (unhide O9) (by decide) j hj e
            refine ⟨hP10, own_twoS (unhide E9) hT10 (unhide NE8) (fun j hj e => own_apartS (unhide E9) (unhide O9) (by decide) j hj e), own_twoS (unhide V9) hT10 (unhide VP) nvo, own_twoS (unhide X9) hT10 (fun h => (unhide NP).1 (Option.some.inj h)) (fun j hj e => own_apartS (unhide X9) (unhide O9) (by decide) j hj e), own_twoS (unhide G9) hT10 (fun h => (unhide NP).2.1 (Option.some.inj h)) (fun j hj e => own_apartS (unhide G9) (unhide O9) (by decide) j hj e), hM10, below_two (unhide B9) hT10 lz9 (unhide LP) (fun j hj => by have e1 : bo = j := Option.some.inj hj; subst e1; exact ((unhide O9).lt bo rfl).1)⟩
          have HLL : Hid (L1.map (·.1) = tls id tm (CN : Int) (l ++ [(tm, (⟨#[]⟩ : ByteArray))]) (fun _ => n) k) := hL10
          clear hP10 hM10 hL10 hT10 P9 X9 G9 E9 V9 O9 B9 lz9
          go_wp2_with fail
          go_end0
          obtain ⟨f1, f2, f3, f4, f5, f6, f7⟩ := unhide FIN
          exact ⟨(some ⟨g7, 0, none⟩), c7, a1, n1, c1, L1, rfl, by rw [← unhide HL8, unhide HN8, ← unhide HCN]; exact f1, by rw [← unhide HL8, unhide HN8]; exact f2, f3, f4, f5, f6, by rw [unhide HLL, unhide HCN, ← unhide HL8, unhide HN8], f7⟩
        · skip
          obtain ⟨G, hG⟩ : ∃ G, G = w5.heap.size := ⟨_, rfl⟩
          have hb6 : Below w5.heap.size w5 (w5.alloc (.cells #[.int .i64 tm, .string ⟨#[]⟩] 68)) := Go.Joins.below_alloc1 w5 (.cells #[.int .i64 tm, .string ⟨#[]⟩] 68)
          have Q6 := hide (BF.new w5 #[.int .i64 tm, .string ⟨#[]⟩] 68)
          have P6 := hide ((unhide P5).below hb6)
          have X6 := hide (((heldZ_of (unhide X5)).below hb6 (Nat.le_refl _)).own)
          have G6 := hide (((heldZ_of (unhide G5)).below hb6 (Nat.le_refl _)).own)
          have E6 := hide (((heldZ_of (unhide E5)).below hb6 (Nat.le_refl _)).own)
          have V6 := hide (((heldZ_of (unhide V5)).below hb6 (Nat.le_refl _)).own)
          have O6 := hide (((heldZ_of (unhide O5)).below hb6 (Nat.le_refl _)).own)
          have B6 := hide ((unhide B5).trans (hb6.mono (by have := (unhide P5).lt; have := unhide LP; omega)))
          rw [← hG] at Q6
          go_simp
          refine hK.out _ _ ?_ (fun hHeldB => ?_)
          · exact fun o _ => (unhide P6).S o
          clear hK K
          try simp only [Act.put, qqA, qqB, qqC]
          rw [← hG]
          clear hb6 hG
          generalize w5.alloc (.cells #[.int .i64 tm, .string ⟨#[]⟩] 68) = w6 at Q6 P6 X6 G6 E6 V6 O6 B6 hHeldB ⊢
          refine wpAnyH_ready (rs := [5]) (by kernel_rfl) (by simp) ?_
          refine AllReadyH.cons (o := oSlS0) rfl (fun K hK => ?_) AllReadyH.nil
          have kp5 := (unhide P6).S
          go_simp
          refine hK.out _ _ ?_ (fun hHeldL => ?_)
          · exact fun o _ => (unhide P6).S o
          clear hK K kp5
          try simp only [Act.put, qqA, qqB, qqC]
          refine wpAnyH_ready (rs := [13]) (by kernel_rfl) (by simp) ?_
          refine AllReadyH.cons (o := oSlS2) rfl (fun K hK => ?_) AllReadyH.nil
          have z6 : lo ≤ w6.heap.size := by have := (unhide P6).lt; have := unhide LP; omega
          refine step_append_lies w6 rfl (.tmp 53) (.tmp 60) 27 rfl lo 68 ie (.agg #[.int .i64 0, .string ⟨#[]⟩]) 2 24 Try.underlying27 hie hie0 hie1 hie2 rfl (by decide) (.slice a n cap) n (cE l) rfl (unhide E6) ⟨G, 0, none⟩ 1 1 [.int .i64 tm, .string ⟨#[]⟩] rfl rfl (by intro j u hj; have e := (unhide Q6).S j; rw [show (⟨G, 0, none⟩ : Addr).add j = ⟨G, j, none⟩ from (by unfold Addr.add; split <;> simp_all)]; rw [e]; simpa using hj) (by intro u hu; simp at hu; rcases hu with rfl | rfl <;> rfl) (by decide) (by unfold maxLen; omega) (by omega) z6 _ rfl ?_
          intro g7 c7 w7 ho7 hg7 hat7 hlt7
          have P7 := hide ((unhide P6).grown hg7 (unhide EP))
          have X7 := hide (own_grown (unhide X6) hg7 (fun j hj e => own_apartS (unhide E6) (unhide X6) (by decide) j e hj))
          have G7 := hide (own_grown (unhide G6) hg7 (fun j hj e => own_apartS (unhide E6) (unhide G6) (by decide) j e hj))
          have V7 := hide (own_grown (unhide V6) hg7 (fun j hj e => own_apartS (unhide E6) (unhide V6) (by decide) j e hj))
          have O7 := hide (own_grown (unhide O6) hg7 (fun j hj e => own_apartS (unhide E6) (unhide O6) (by decide) j e hj))
          have B7 := hide ((unhide B6).grown hg7 z6 (fun j hj => ((unhide E6).lt j hj).1))
          have F7 : Hid (g7 ≠ P ∧ g7 ≠ bo) := by
            show _ ∧ _
            rcases hat7 with h | h
            · exact ⟨fun e => unhide EP (by rw [h, e]), fun e => own_apartS (unhide E6) (unhide O6) (by decide) g7 h (by rw [e]; rfl)⟩
            · have h1 := (unhide P6).lt; have h2 := ((unhide O6).lt bo rfl).2; exact ⟨by omega, by omega⟩
          have cc7 : n + 1 ≤ c7 := by
            rcases ho7.2 with ⟨hx0, _⟩ | ⟨gq, cq, cur, hvq, _, _, hnc, _⟩
            · cases hx0
            · injection hvq with _ _ e3; rw [e3]; exact hnc
          have E7 : Hid (w7.ownsRow lo 68 2 (.slice (some ⟨g7, 0, none⟩) (n + 1) c7) (n + 1) (cE (l ++ [(tm, (⟨#[]⟩ : ByteArray))]))) := by show World.ownsRow _ _ _ _ _ _ _; rw [cE_app]; exact ho7
          clear ho7 hg7 hat7 hlt7 P6 X6 G6 E6 V6 O6 B6 Q6 z6
          refine hK.out _ _ ?_ (fun hHeld13 => ?_)
          · exact fun o _ => (unhide P7).S o
          clear hK K
          try simp only [Act.put, qqA, qqB, qqC]
          refine wtk (i := 14) (oi := oSlS3) (v := ?_) rfl (Or.inl ⟨by rfl, ?_⟩) (by assumption) ?_
          rotate_left 1
          · (intro w' hSw; (try dsimp only at hSw); go_simp; try with_reducible rfl)
          try simp only [Act.put, qqA, qqB, qqC]
          refine wtk (i := 15) (oi := oSlS4) (v := ?_) rfl (Or.inl ⟨by rfl, ?_⟩) (by assumption) ?_
          rotate_left 1
          · (intro w' hSw; (try dsimp only at hSw); go_simp; try with_reducible rfl)
          try simp only [Act.put, qqA, qqB, qqC]
          refine wtk (i := 16) (oi := oSlS5) (v := ?_) rfl (Or.inl ⟨by rfl, ?_⟩) (by assumption) ?_
          rotate_left 1
          · (intro w' hSw; (try dsimp only at hSw); go_simp; try with_reducible rfl)
          try simp only [Act.put, qqA, qqB, qqC]
          refine wpAnyH_ready (rs := [17]) (by kernel_rfl) (by simp) ?_
          refine AllReadyH.cons (o := oSlS6) rfl (fun K hK => ?_) AllReadyH.nil
          have kp7 := (unhide P7).S
          have kpf := (unhide P7).F
          obtain ⟨w8, hw8⟩ : ∃ w8, w8 = w7.setCell ⟨P, 6, none⟩ (.slice (some ⟨g7, 0, none⟩) (n + 1) c7) := ⟨_, rfl⟩
          have P8 : Hid (BF P #[.int .i64 id, .int .i64 (k : Int), .int .i64 tm, .int .i64 vt, .int .i64 2, .bool up, .slice (some ⟨g7, 0, none⟩) (n + 1) c7, .int .i64 (c : Int), .int .i64 0, .int .i64 wt, .slice av nv cv, .slice (some ⟨bx, 0, none⟩) k cx, .slice (some ⟨bg, 0, none⟩) k cg, .slice (some ⟨bo, 0, none⟩) 0 co] w8) := by rw [hw8]; exact (unhide P7).set 6 (by simp) _
          have hf8 : ∀ k, k ≠ P → w8.heap[k]? = w7.heap[k]? := fun k hk => by rw [hw8]; exact Below.heap_setCell _ _ _ _ hk
          have E8 := hide (own_keepB (unhide E7) (hf8 g7 (unhide F7).1))
          have X8 := hide (own_farJ (unhide X7) hf8 (fun h => (unhide NP).1 (Option.some.inj h)))
          have G8 := hide (own_farJ (unhide G7) hf8 (fun h => (unhide NP).2.1 (Option.some.inj h)))
          have V8 := hide (own_farJ (unhide V7) hf8 (unhide VP))
          have O8 := hide (own_farJ (unhide O7) hf8 (fun h => (unhide NP).2.2 (Option.some.inj h)))
          have B8 : Hid (Below lo w w8) := by rw [hw8]; exact Below.setCell (unhide B7) (unhide LP) _
          have k8 : ∀ o, o ≠ 6 → w8.cell? ⟨P, o, none⟩ = (#[.int .i64 id, .int .i64 (k : Int), .int .i64 tm, .int .i64 vt, .int .i64 2, .bool up, .slice a n cap, .int .i64 (c : Int), .int .i64 0, .int .i64 wt, .slice av nv cv, .slice (some ⟨bx, 0, none⟩) k cx, .slice (some ⟨bg, 0, none⟩) k cg, .slice (some ⟨bo, 0, none⟩) 0 co] : Array Value)[o]? := fun o ho => by rw [(unhide P8).S o]; exact arr6s _ _ _ _ _ _ _ _ _ _ _ _ _ _ _ o ho
          go_simp
          rw [← hw8]
          refine hK.out _ _ ?_ (fun hHeld17 => ?_)
          · exact k8
          clear hK K
          try simp only [Act.put, qqA, qqB, qqC]
          refine wpAnyH_done (by kernel_rfl) ?_ _
          clear kp7 kpf hw8 hf8 k8 P7 X7 G7 E7 V7 O7 B7 hHeld kp
          have HN8 : Hid ((l ++ [(tm, (⟨#[]⟩ : ByteArray))]).length = n + 1) := by show _ = _; rw [List.length_append, unhide HN]; rfl
          have HL8 : Hid (l ++ [(tm, (⟨#[]⟩ : ByteArray))] = ldL tm l) := by show _ = _; unfold ldL; rw [if_pos (by rw [unhide HN]; exact h60)]
          have HM8 : Hid (∀ k, k ≤ n + 1 → tAt (l ++ [(tm, (⟨#[]⟩ : ByteArray))]) k ≠ tm → ∀ j, 0 < j → j ≤ k → tAt (l ++ [(tm, (⟨#[]⟩ : ByteArray))]) j ≠ tm) := fun k hk => own_lastA (unhide HLG) k (by have := unhide HN; omega)
          have NE8 : Hid ((Value.slice (some ⟨g7, 0, none⟩) (n + 1) c7).ownBlock ≠ some P) := fun h => (unhide F7).1 (Option.some.inj h)
          have OE8 : Hid (OffA P (some bo) (some ⟨g7, 0, none⟩)) := fun x hx => by injection hx with hx; subst hx; exact ⟨(unhide F7).1, fun e => (unhide F7).2 (Option.some.inj e).symm⟩
          go_wp2_with fail
          refine (sadvance P id k tm vt 2 c 0 wt up (some ⟨g7, 0, none⟩) c7 (n + 1) av cv nv (some ⟨bx, 0, none⟩) cx k (some ⟨bg, 0, none⟩) cg k (.slice (some ⟨bo, 0, none⟩) 0 co) (l ++ [(tm, (⟨#[]⟩ : ByteArray))]) HN8 (by omega) (List.replicate k (0 : Int)) HNG rfl hnd (by omega) HM8 w8 (unhide P8) (rowZ_at (unhide E8)) (rowZ_at (unhide G8))).mono ?_
          rintro e w9 ⟨rfl, hP9, hg9⟩
          obtain ⟨CN, hCN⟩ : ∃ CN : Nat, CN = advN id tm k (l ++ [(tm, (⟨#[]⟩ : ByteArray))]) (List.replicate k (0 : Int)) c (n + 1) := ⟨_, rfl⟩
          rw [← hCN] at hP9
          have P9 := hide hP9
          have HCN := hide hCN
          have E9 := hide (own_grown (unhide E8) hg9 (fun j hj e => unhide NE8 (hj.trans e.symm)))
          have X9 := hide (own_grown (unhide X8) hg9 (fun j hj e => (fun h => (unhide NP).1 (Option.some.inj h)) (hj.trans e.symm)))
          have G9 := hide (own_grown (unhide G8) hg9 (fun j hj e => (fun h => (unhide NP).2.1 (Option.some.inj h)) (hj.trans e.symm)))
          have V9 := hide (own_grown (unhide V8) hg9 (fun j hj e => unhide VP (hj.trans e.symm)))
          have O9 := hide (own_grown (unhide O8) hg9 (fun j hj e => (fun h => (unhide NP).2.2 (Option.some.inj h)) (hj.trans e.symm)))
          have B9 := hide ((unhide B8).grown hg9 (by have := (unhide P8).lt; have := unhide LP; omega) (fun j hj => by have e := Option.some.inj hj; have := unhide LP; omega))
          have lz9 : lo ≤ w9.heap.size := by have := (unhide P9).lt; have := unhide LP; omega
          clear hP9 hg9 hCN P8 X8 G8 E8 V8 O8 B8
          go_wp2_with fail
          refine (sall P id k tm vt 2 CN 0 wt up (some ⟨g7, 0, none⟩) c7 (n + 1) av cv nv (some ⟨bx, 0, none⟩) cx k (some ⟨bg, 0, none⟩) cg k (some ⟨bo, 0, none⟩) 0 co lo [] rfl (by decide) (l ++ [(tm, (⟨#[]⟩ : ByteArray))]) HN8 (by omega) (List.replicate k ((n : Int) + 1)) (fun _ => n) HJ HNX hnd rfl cc7 w9 (unhide P9) ⟨unhide O9, (fun p hp => by cases hp), List.Pairwise.nil, (fun p hp => by cases hp)⟩ lz9 (fun h => (unhide NP).2.2 (Option.some.inj h)) (fun x hx => by cases hx) (rowZ_at (unhide E9)) (rowZ_at (unhide X9)) (unhide OE8) (fun x hx => by injection hx with hx; subst hx; exact ⟨(unhide NP).1, fun e => own_apartS (unhide O9) (unhide X9) (by decide) bo rfl (by have e1 : bo = bx := Option.some.inj e; rw [e1]; rfl)⟩)).mono ?_
          rintro e w10 ⟨a1, n1, c1, L1, rfl, hP10, hM10, hL10, hT10⟩
          rw [List.nil_append] at hM10
          have FIN : Hid (BF P #[.int .i64 id, .int .i64 (k : Int), .int .i64 tm, .int .i64 vt, .int .i64 2, .bool up, .slice (some ⟨g7, 0, none⟩) (n + 1) c7, .int .i64 (CN : Int), .int .i64 0, .int .i64 wt, .slice av nv cv, .slice (some ⟨bx, 0, none⟩) k cx, .slice (some ⟨bg, 0, none⟩) k cg, .slice a1 n1 c1] w10 ∧ w10.ownsRow lo 68 2 (.slice (some ⟨g7, 0, none⟩) (n + 1) c7) (n + 1) (cE (l ++ [(tm, (⟨#[]⟩ : ByteArray))])) ∧ w10.ownsRow lo 3 1 (.slice av nv cv) nv xv ∧ w10.ownsRow lo 3 1 (.slice (some ⟨bx, 0, none⟩) k cx) k (cI (List.replicate k ((n : Int) + 1))) ∧ w10.ownsRow lo 3 1 (.slice (some ⟨bg, 0, none⟩) k cg) k (cI (List.replicate k (0 : Int))) ∧ MOwn w10 lo (.slice a1 n1 c1) L1 ∧ Below lo w w10) := by
            have nvo : ∀ j, (Value.slice av nv cv).ownBlock = some j → (some bo : Option Nat) ≠ some j := fun j hj e => own_apartS (unhide V9) (unhide O9) (by decide) j hj e
            refine ⟨hP10, own_twoS (unhide E9) hT10 (unhide NE8) (fun j hj e => own_apartS (unhide E9) (unhide O9) (by decide) j hj e), own_twoS (unhide V9) hT10 (unhide VP) nvo, own_twoS (unhide X9) hT10 (fun h => (unhide NP).1 (Option.some.inj h)) (fun j hj e => own_apartS (unhide X9) (unhide O9) (by decide) j hj e), own_twoS (unhide G9) hT10 (fun h => (unhide NP).2.1 (Option.some.inj h)) (fun j hj e => own_apartS (unhide G9) (unhide O9) (by decide) j hj e), hM10, below_two (unhide B9) hT10 lz9 (unhide LP) (fun j hj => by have e1 : bo = j := Option.some.inj hj; subst e1; exact ((unhide O9).lt bo rfl).1)⟩
          have HLL : Hid (L1.map (·.1) = tls id tm (CN : Int) (l ++ [(tm, (⟨#[]⟩ : ByteArray))]) (fun _ => n) k) := hL10
          clear hP10 hM10 hL10 hT10 P9 X9 G9 E9 V9 O9 B9 lz9
          go_wp2_with fail
          go_end0
          obtain ⟨f1, f2, f3, f4, f5, f6, f7⟩ := unhide FIN
          exact ⟨(some ⟨g7, 0, none⟩), c7, a1, n1, c1, L1, rfl, by rw [← unhide HL8, unhide HN8, ← unhide HCN]; exact f1, by rw [← unhide HL8, unhide HN8]; exact f2, f3, f4, f5, f6, by rw [unhide HLL, unhide HCN, ← unhide HL8, unhide HN8], f7⟩
      · have i60 : ¬ (n : Int) < 60 := by omega
        have HJ : Hid (∀ t (h : t < (List.replicate k ((n : Int) + 1)).length), (List.replicate k ((n : Int) + 1))[t] = (((fun _ => n) t : Nat) : Int) + 1 ∧ (fun _ => n) t ≤ n) := fun t h => ⟨by simp, by simp⟩
        obtain ⟨w8, hw8⟩ : ∃ w8, w8 = wr := ⟨_, rfl⟩
        rw [← hw8] at P4 X4 G4 E4 V4 O4 B4 kp
        have P8 := P4
        have X8 := X4
        have G8 := G4
        have E8 := E4
        have V8 := V4
        have O8 := O4
        have B8 := B4
        have HN8 := HN
        have HL8 : Hid (l = ldL tm l) := by show _ = _; unfold ldL; rw [if_neg (by rw [unhide HN]; omega)]
        have HM8 : Hid (∀ k, k ≤ n → tAt l k ≠ tm → ∀ j, 0 < j → j ≤ k → tAt l j ≠ tm) := fun k hk => own_last (unhide HLG) k (by have := unhide HN; omega)
        have NE8 := EP
        have OE8 : Hid (OffA P (some bo) a) := offA_own (unhide E4) (fun j hj => ⟨fun e => unhide EP (by rw [hj, e]), fun e => own_apartS (unhide E4) (unhide O4) (by decide) j hj e⟩)
        rw [← hw8]
        clear P4 X4 G4 E4 V4 O4 B4 hw8
        go_wp2_with fail
        refine (sadvance P id k tm vt 2 c 0 wt up a cap n av cv nv (some ⟨bx, 0, none⟩) cx k (some ⟨bg, 0, none⟩) cg k (.slice (some ⟨bo, 0, none⟩) 0 co) l HN8 (by omega) (List.replicate k (0 : Int)) HNG rfl hnd (by omega) HM8 w8 (unhide P8) (rowZ_at (unhide E8)) (rowZ_at (unhide G8))).mono ?_
        rintro e w9 ⟨rfl, hP9, hg9⟩
        obtain ⟨CN, hCN⟩ : ∃ CN : Nat, CN = advN id tm k l (List.replicate k (0 : Int)) c n := ⟨_, rfl⟩
        rw [← hCN] at hP9
        have P9 := hide hP9
        have HCN := hide hCN
        have E9 := hide (own_grown (unhide E8) hg9 (fun j hj e => unhide NE8 (hj.trans e.symm)))
        have X9 := hide (own_grown (unhide X8) hg9 (fun j hj e => (fun h => (unhide NP).1 (Option.some.inj h)) (hj.trans e.symm)))
        have G9 := hide (own_grown (unhide G8) hg9 (fun j hj e => (fun h => (unhide NP).2.1 (Option.some.inj h)) (hj.trans e.symm)))
        have V9 := hide (own_grown (unhide V8) hg9 (fun j hj e => unhide VP (hj.trans e.symm)))
        have O9 := hide (own_grown (unhide O8) hg9 (fun j hj e => (fun h => (unhide NP).2.2 (Option.some.inj h)) (hj.trans e.symm)))
        have B9 := hide ((unhide B8).grown hg9 (by have := (unhide P8).lt; have := unhide LP; omega) (fun j hj => by have e := Option.some.inj hj; have := unhide LP; omega))
        have lz9 : lo ≤ w9.heap.size := by have := (unhide P9).lt; have := unhide LP; omega
        clear hP9 hg9 hCN P8 X8 G8 E8 V8 O8 B8
        go_wp2_with fail
        refine (sall P id k tm vt 2 CN 0 wt up a cap n av cv nv (some ⟨bx, 0, none⟩) cx k (some ⟨bg, 0, none⟩) cg k (some ⟨bo, 0, none⟩) 0 co lo [] rfl (by decide) l HN8 (by omega) (List.replicate k ((n : Int) + 1)) (fun _ => n) HJ HNX hnd rfl hnc w9 (unhide P9) ⟨unhide O9, (fun p hp => by cases hp), List.Pairwise.nil, (fun p hp => by cases hp)⟩ lz9 (fun h => (unhide NP).2.2 (Option.some.inj h)) (fun x hx => by cases hx) (rowZ_at (unhide E9)) (rowZ_at (unhide X9)) (unhide OE8) (fun x hx => by injection hx with hx; subst hx; exact ⟨(unhide NP).1, fun e => own_apartS (unhide O9) (unhide X9) (by decide) bo rfl (by have e1 : bo = bx := Option.some.inj e; rw [e1]; rfl)⟩)).mono ?_
        rintro e w10 ⟨a1, n1, c1, L1, rfl, hP10, hM10, hL10, hT10⟩
        rw [List.nil_append] at hM10
        have FIN : Hid (BF P #[.int .i64 id, .int .i64 (k : Int), .int .i64 tm, .int .i64 vt, .int .i64 2, .bool up, .slice a n cap, .int .i64 (CN : Int), .int .i64 0, .int .i64 wt, .slice av nv cv, .slice (some ⟨bx, 0, none⟩) k cx, .slice (some ⟨bg, 0, none⟩) k cg, .slice a1 n1 c1] w10 ∧ w10.ownsRow lo 68 2 (.slice a n cap) n (cE l) ∧ w10.ownsRow lo 3 1 (.slice av nv cv) nv xv ∧ w10.ownsRow lo 3 1 (.slice (some ⟨bx, 0, none⟩) k cx) k (cI (List.replicate k ((n : Int) + 1))) ∧ w10.ownsRow lo 3 1 (.slice (some ⟨bg, 0, none⟩) k cg) k (cI (List.replicate k (0 : Int))) ∧ MOwn w10 lo (.slice a1 n1 c1) L1 ∧ Below lo w w10) := by
          have nvo : ∀ j, (Value.slice av nv cv).ownBlock = some j → (some bo : Option Nat) ≠ some j := fun j hj e => own_apartS (unhide V9) (unhide O9) (by decide) j hj e
          refine ⟨hP10, own_twoS (unhide E9) hT10 (unhide NE8) (fun j hj e => own_apartS (unhide E9) (unhide O9) (by decide) j hj e), own_twoS (unhide V9) hT10 (unhide VP) nvo, own_twoS (unhide X9) hT10 (fun h => (unhide NP).1 (Option.some.inj h)) (fun j hj e => own_apartS (unhide X9) (unhide O9) (by decide) j hj e), own_twoS (unhide G9) hT10 (fun h => (unhide NP).2.1 (Option.some.inj h)) (fun j hj e => own_apartS (unhide G9) (unhide O9) (by decide) j hj e), hM10, below_two (unhide B9) hT10 lz9 (unhide LP) (fun j hj => by have e1 : bo = j := Option.some.inj hj; subst e1; exact ((unhide O9).lt bo rfl).1)⟩
        have HLL : Hid (L1.map (·.1) = tls id tm (CN : Int) l (fun _ => n) k) := hL10
        clear hP10 hM10 hL10 hT10 P9 X9 G9 E9 V9 O9 B9 lz9
        go_wp2_with fail
        go_end0
        obtain ⟨f1, f2, f3, f4, f5, f6, f7⟩ := unhide FIN
        exact ⟨a, cap, a1, n1, c1, L1, rfl, by rw [← unhide HL8, unhide HN8, ← unhide HCN]; exact f1, by rw [← unhide HL8, unhide HN8]; exact f2, f3, f4, f5, f6, by rw [unhide HLL, unhide HCN, ← unhide HL8, unhide HN8], f7⟩
end Go.Proofs.Ytjlajpnhcphngaa
