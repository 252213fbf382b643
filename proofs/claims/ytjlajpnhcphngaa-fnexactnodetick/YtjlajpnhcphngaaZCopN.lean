/- A node copied: what the program answers. -/
import Derived.Test.YtjlajpnhcphngaaZNpJ
import Derived.Test.YtjlajpnhcphngaaZNdL
namespace Go.Proofs.Ytjlajpnhcphngaa
open Go.ChangeShapes Go.WideShapes Go.ChangeAt Go.RowKit
set_option linter.unusedVariables false
abbrev oCopN0 : Oper := { dst := some 4, op := .load 27 (.tmp 3), type := 27, pos := "l08_raft.go:123", after := #[{ on := 0, ground := .data }], guard := none }
abbrev oCopN1 : Oper := { dst := some 7, op := .load 23 (.tmp 6), type := 23, pos := "l08_raft.go:123", after := #[{ on := 3, ground := .data }], guard := none }
abbrev oCopN2 : Oper := { dst := some 5, op := .call { callee := .value (.func 46), args := #[.tmp 4], argTypes := #[27] }, type := 27, pos := "l08_raft.go:123", after := #[{ on := 1, ground := .data }], guard := none }
abbrev oCopN3 : Oper := { dst := some 9, op := .fieldAddr 29 (.tmp 1) 6, type := 0, pos := "l08_raft.go:123", after := #[{ on := 0, ground := .phase }, { on := 1, ground := .phase }, { on := 2, ground := .phase }, { on := 3, ground := .phase }, { on := 4, ground := .phase }, { on := 5, ground := .textOnly Go.Departure.lateStoresUnsure }], guard := none }
abbrev oCopN4 : Oper := { dst := some 8, op := .call { callee := .value (.func 47), args := #[.tmp 7], argTypes := #[23] }, type := 23, pos := "l08_raft.go:123", after := #[{ on := 4, ground := .data }, { on := 2, ground := .chain }], guard := none }
abbrev oCopN5 : Oper := { dst := none, op := .store 27 (.tmp 9) (.tmp 5), type := 0, pos := "l08_raft.go:123", after := #[{ on := 6, ground := .data }, { on := 2, ground := .data }, { on := 5, ground := .chain }, { on := 0, ground := .phase }, { on := 1, ground := .phase }, { on := 2, ground := .phase }, { on := 3, ground := .phase }, { on := 4, ground := .phase }, { on := 5, ground := .textOnly Go.Departure.lateStoresUnsure }], guard := none }
abbrev oCopN6 : Oper := { dst := some 10, op := .fieldAddr 29 (.tmp 1) 10, type := 0, pos := "l08_raft.go:123", after := #[{ on := 0, ground := .phase }, { on := 1, ground := .phase }, { on := 2, ground := .phase }, { on := 3, ground := .phase }, { on := 4, ground := .phase }, { on := 5, ground := .phase }, { on := 6, ground := .phase }, { on := 7, ground := .phase }], guard := none }
abbrev oCopN7 : Oper := { dst := none, op := .store 23 (.tmp 10) (.tmp 8), type := 0, pos := "l08_raft.go:123", after := #[{ on := 8, ground := .data }, { on := 5, ground := .data }, { on := 7, ground := .chain }, { on := 0, ground := .phase }, { on := 1, ground := .phase }, { on := 2, ground := .phase }, { on := 3, ground := .phase }, { on := 4, ground := .phase }, { on := 5, ground := .phase }, { on := 6, ground := .phase }, { on := 7, ground := .phase }], guard := none }
abbrev oCopN8 : Oper := { dst := some 11, op := .fieldAddr 29 (.tmp 1) 11, type := 0, pos := "l08_raft.go:124", after := #[], guard := none }
abbrev oCopN9 : Oper := { dst := some 14, op := .fieldAddr 29 (.tmp 1) 12, type := 0, pos := "l08_raft.go:124", after := #[], guard := none }
abbrev oCopN10 : Oper := { dst := some 12, op := .load 23 (.tmp 11), type := 23, pos := "l08_raft.go:124", after := #[{ on := 0, ground := .data }], guard := none }
abbrev oCopN11 : Oper := { dst := some 15, op := .load 23 (.tmp 14), type := 23, pos := "l08_raft.go:124", after := #[{ on := 3, ground := .data }], guard := none }
abbrev oCopN12 : Oper := { dst := some 13, op := .call { callee := .value (.func 47), args := #[.tmp 12], argTypes := #[23] }, type := 23, pos := "l08_raft.go:124", after := #[{ on := 1, ground := .data }], guard := none }
abbrev oCopN13 : Oper := { dst := some 17, op := .fieldAddr 29 (.tmp 1) 11, type := 0, pos := "l08_raft.go:124", after := #[{ on := 0, ground := .phase }, { on := 1, ground := .phase }, { on := 2, ground := .phase }, { on := 3, ground := .phase }, { on := 4, ground := .phase }, { on := 5, ground := .textOnly Go.Departure.lateStoresUnsure }], guard := none }
abbrev oCopN14 : Oper := { dst := some 16, op := .call { callee := .value (.func 47), args := #[.tmp 15], argTypes := #[23] }, type := 23, pos := "l08_raft.go:124", after := #[{ on := 4, ground := .data }, { on := 2, ground := .chain }], guard := none }
abbrev oCopN15 : Oper := { dst := none, op := .store 23 (.tmp 17) (.tmp 13), type := 0, pos := "l08_raft.go:124", after := #[{ on := 6, ground := .data }, { on := 2, ground := .data }, { on := 5, ground := .chain }, { on := 0, ground := .phase }, { on := 1, ground := .phase }, { on := 2, ground := .phase }, { on := 3, ground := .phase }, { on := 4, ground := .phase }, { on := 5, ground := .textOnly Go.Departure.lateStoresUnsure }], guard := none }
abbrev oCopN16 : Oper := { dst := some 18, op := .fieldAddr 29 (.tmp 1) 12, type := 0, pos := "l08_raft.go:124", after := #[{ on := 0, ground := .phase }, { on := 1, ground := .phase }, { on := 2, ground := .phase }, { on := 3, ground := .phase }, { on := 4, ground := .phase }, { on := 5, ground := .phase }, { on := 6, ground := .phase }, { on := 7, ground := .phase }], guard := none }
abbrev oCopN17 : Oper := { dst := none, op := .store 23 (.tmp 18) (.tmp 16), type := 0, pos := "l08_raft.go:124", after := #[{ on := 8, ground := .data }, { on := 5, ground := .data }, { on := 7, ground := .chain }, { on := 0, ground := .phase }, { on := 1, ground := .phase }, { on := 2, ground := .phase }, { on := 3, ground := .phase }, { on := 4, ground := .phase }, { on := 5, ground := .phase }, { on := 6, ground := .phase }, { on := 7, ground := .phase }], guard := none }
set_option maxHeartbeats 4000000 in
set_option maxRecDepth 100000 in
theorem icopN (id nd tm vt ro cm el wt : Int) (up : Bool) (a : Option Addr) (cap n : Nat) (l : List (Int × ByteArray)) (HN : Hid (l.length = n)) (av : Option Addr) (cv nv : Nat) (lv : List Int) (HNv : Hid (lv.length = nv)) (ax : Option Addr) (cx nx : Nat) (lx : List Int) (HNx : Hid (lx.length = nx)) (ag : Option Addr) (cg ng : Nat) (lg : List Int) (HNg : Hid (lg.length = ng)) (hn : n ≤ 1048576) (hnv : nv ≤ 1048576) (hnx : nx ≤ 1048576) (hng : ng ≤ 1048576) (w : World) (hr : RowV w a (cE l)) (hrv : RowV w av (cI lv)) (hrx : RowV w ax (cI lx)) (hrg : RowV w ag (cI lg)) :
    Calls Try.prog 24 #[.agg #[.int .i64 id, .int .i64 nd, .int .i64 tm, .int .i64 vt, .int .i64 ro, .bool up, .slice a n cap, .int .i64 cm, .int .i64 el, .int .i64 wt, .slice av nv cv, .slice ax nx cx, .slice ag ng cg]] w fun e w' => ∃ eA eC vA vC xA xC gA gC loe hie lov hiv lox hix log hig, e = .returned (.agg #[.int .i64 id, .int .i64 nd, .int .i64 tm, .int .i64 vt, .int .i64 ro, .bool up, .slice eA n eC, .int .i64 cm, .int .i64 el, .int .i64 wt, .slice vA nv vC, .slice xA nx xC, .slice gA ng gC]) ∧ HeldZ 2 w' loe hie 68 (.slice eA n eC) n (cE l) ∧ Held w' lov hiv 3 (.slice vA nv vC) nv (cI lv) ∧ Held w' lox hix 3 (.slice xA nx xC) nx (cI lx) ∧ Held w' log hig 3 (.slice gA ng gC) ng (cI lg) ∧ (w.heap.size ≤ loe ∧ hie ≤ lov ∧ hiv ≤ lox ∧ hix ≤ log) ∧ (loe ≤ hie ∧ lov ≤ hiv ∧ lox ≤ hix ∧ log ≤ hig) ∧ Below w.heap.size w w' := by
  have B0 := hide (Go.Joins.below_alloc2 w (.cells #[.int .i64 id, .int .i64 nd, .int .i64 tm, .int .i64 vt, .int .i64 ro, .bool up, .slice a n cap, .int .i64 cm, .int .i64 el, .int .i64 wt, .slice av nv cv, .slice ax nx cx, .slice ag ng cg] 29) (.cells #[.int .i64 0, .int .i64 0, .int .i64 0, .int .i64 0, .int .i64 0, .bool false, .slice none 0 0, .int .i64 0, .int .i64 0, .int .i64 0, .slice none 0 0, .slice none 0 0, .slice none 0 0] 29))
  have A0 := hide ((BF.new w #[.int .i64 id, .int .i64 nd, .int .i64 tm, .int .i64 vt, .int .i64 ro, .bool up, .slice a n cap, .int .i64 cm, .int .i64 el, .int .i64 wt, .slice av nv cv, .slice ax nx cx, .slice ag ng cg] 29).alloc (.cells #[.int .i64 0, .int .i64 0, .int .i64 0, .int .i64 0, .int .i64 0, .bool false, .slice none 0 0, .int .i64 0, .int .i64 0, .int .i64 0, .slice none 0 0, .slice none 0 0, .slice none 0 0] 29))
  have Z0 := hide (BF.new (w.alloc (.cells #[.int .i64 id, .int .i64 nd, .int .i64 tm, .int .i64 vt, .int .i64 ro, .bool up, .slice a n cap, .int .i64 cm, .int .i64 el, .int .i64 wt, .slice av nv cv, .slice ax nx cx, .slice ag ng cg] 29)) #[.int .i64 0, .int .i64 0, .int .i64 0, .int .i64 0, .int .i64 0, .bool false, .slice none 0 0, .int .i64 0, .int .i64 0, .int .i64 0, .slice none 0 0, .slice none 0 0, .slice none 0 0] 29)
  simp only [World.size_alloc] at Z0
  have HRe := hide hr
  have HRv := hide hrv
  have HRx := hide hrx
  have HRg := hide hrg
  clear hr hrv hrx hrg
  go_enter Try.func24, Try.ntmps24
  have AD := hide (unhide A0).drew
  have ZD := hide (unhide Z0).drew
  have BD := hide (unhide B0).drew
  clear A0 Z0 B0 
  go_wp2_with fail
  refine wp_region_held_drew (S := fun w' => True) (by kernel_rfl) trivial (fun hHeld => ?_)
  generalize ((w.alloc (.cells #[.int .i64 id, .int .i64 nd, .int .i64 tm, .int .i64 vt, .int .i64 ro, .bool up, .slice a n cap, .int .i64 cm, .int .i64 el, .int .i64 wt, .slice av nv cv, .slice ax nx cx, .slice ag ng cg] 29)).alloc (.cells #[.int .i64 0, .int .i64 0, .int .i64 0, .int .i64 0, .int .i64 0, .bool false, .slice none 0 0, .int .i64 0, .int .i64 0, .int .i64 0, .slice none 0 0, .slice none 0 0, .slice none 0 0] 29)).drew = u1000 at AD ZD BD  hHeld ⊢
  refine wtk (i := 0) (oi := { dst := some 3, op := .fieldAddr 29 (.tmp 1) 6, type := 0, pos := "l08_raft.go:123", after := #[], guard := none }) (v := ?_) rfl (Or.inl ⟨by rfl, ?_⟩) (by assumption) ?_
  rotate_left 1
  · (intro w' hSw; (try dsimp only at hSw); go_simp; try with_reducible rfl)
  try simp only [Act.put, qqA, qqB, qqC]
  refine wtk (i := 3) (oi := { dst := some 6, op := .fieldAddr 29 (.tmp 1) 10, type := 0, pos := "l08_raft.go:123", after := #[], guard := none }) (v := ?_) rfl (Or.inl ⟨by rfl, ?_⟩) (by assumption) ?_
  rotate_left 1
  · (intro w' hSw; (try dsimp only at hSw); go_simp; try with_reducible rfl)
  try simp only [Act.put, qqA, qqB, qqC]
  have A1 := AD
  have Z1 := ZD
  have B1 := BD
  clear AD ZD BD 
  refine wpAnyH_ready (rs := [1, 4]) (by kernel_rfl) (by simp) ?_
  refine AllReadyH.cons (o := oCopN0) rfl (fun K hK => ?_) (AllReadyH.cons (o := oCopN1) rfl (fun K hK => ?_) AllReadyH.nil)
  · skip
    have ka := (unhide A1).S
    go_simp
    refine hK.out _ _ ?_ (fun hHeld1 => ?_)
    · trivial
    clear hK K
    try simp only [Act.put, qqA, qqB, qqC]
    clear ka
    refine wpAnyH_ready (rs := [2, 4]) (by kernel_rfl) (by simp) ?_
    refine AllReadyH.cons (o := oCopN2) rfl (fun K hK => ?_) (AllReadyH.cons (o := oCopN1) rfl (fun K hK => ?_) AllReadyH.nil)
    · skip
      go_simp
      refine (icloneA a cap n l HN hn _ ((unhide HRe).below (unhide B1))).mono ?_
      rintro e u2 ⟨vv, rfl, ho, hb⟩
      obtain ⟨eA, eC, rfl, -⟩ := ownZ_rowV ho
      have A2 := hide ((unhide A1).below hb)
      have Z2 := hide ((unhide Z1).below hb)
      have B2 := hide ((unhide B1).trans (hb.mono (unhide B1).size))
      have e2 := hide (heldZ_of ho)
      obtain ⟨loe, hle⟩ : ∃ q, q = u1000.heap.size := ⟨_, rfl⟩
      obtain ⟨hie, hhe⟩ : ∃ q, q = u2.heap.size := ⟨_, rfl⟩
      have oe : Hid (w.heap.size + 2 ≤ loe) := by show _ ≤ _; rw [hle]; have := (unhide Z1).lt; omega
      have ole : Hid (loe ≤ hie) := by show _ ≤ _; rw [hle, hhe]; exact hb.size
      rw [← hle, ← hhe] at e2
      clear hb ho hle hhe A1 Z1 B1 
      go_wp2_with fail
      refine hK.out _ _ ?_ (fun hHeld2 => ?_)
      · trivial
      clear hK K
      try simp only [Act.put, qqA, qqB, qqC]
      refine wpAnyH_ready (rs := [4]) (by kernel_rfl) (by simp) ?_
      refine AllReadyH.cons (o := oCopN1) rfl (fun K hK => ?_) AllReadyH.nil
      have ka := (unhide A2).S
      go_simp
      refine hK.out _ _ ?_ (fun hHeld4 => ?_)
      · trivial
      clear hK K
      try simp only [Act.put, qqA, qqB, qqC]
      clear ka
      refine wtk (i := 6) (oi := oCopN3) (v := ?_) rfl (Or.inl ⟨by rfl, ?_⟩) (by assumption) ?_
      rotate_left 1
      · (intro w' hSw; (try dsimp only at hSw); go_simp; try with_reducible rfl)
      try simp only [Act.put, qqA, qqB, qqC]
      refine wpAnyH_ready (rs := [5]) (by kernel_rfl) (by simp) ?_
      refine AllReadyH.cons (o := oCopN4) rfl (fun K hK => ?_) AllReadyH.nil
      go_simp
      refine (jcloneA av cv nv lv HNv hnv _ ((unhide HRv).below (unhide B2))).mono ?_
      rintro e u3 ⟨vv, rfl, ho, hb⟩
      obtain ⟨vA, vC, rfl, -⟩ := ownZ_rowV ho
      have A3 := hide ((unhide A2).below hb)
      have Z3 := hide ((unhide Z2).below hb)
      have B3 := hide ((unhide B2).trans (hb.mono (unhide B2).size))
      have e3 := hide ((unhide e2).below hb (unhide e2).le)
      have v3 := hide (held_of ho)
      obtain ⟨lov, hlv⟩ : ∃ q, q = u2.heap.size := ⟨_, rfl⟩
      obtain ⟨hiv, hhv⟩ : ∃ q, q = u3.heap.size := ⟨_, rfl⟩
      have ov : Hid (w.heap.size + 2 ≤ lov) := by show _ ≤ _; rw [hlv]; have := (unhide Z2).lt; omega
      have olv : Hid (lov ≤ hiv) := by show _ ≤ _; rw [hlv, hhv]; exact hb.size
      have oov : Hid (hie ≤ lov) := by show _ ≤ _; rw [hlv]; exact (unhide e2).le
      rw [← hlv, ← hhv] at v3
      clear hb ho hlv hhv A2 Z2 B2 e2
      go_wp2_with fail
      refine hK.out _ _ ?_ (fun hHeld5 => ?_)
      · trivial
      clear hK K
      try simp only [Act.put, qqA, qqB, qqC]
      refine wpAnyH_ready (rs := [7]) (by kernel_rfl) (by simp) ?_
      refine AllReadyH.cons (o := oCopN5) rfl (fun K hK => ?_) AllReadyH.nil
      have ka := (unhide A3).S
      have kaf := (unhide A3).F
      obtain ⟨u4, hv⟩ : ∃ w9, w9 = u3.setCell ⟨w.heap.size, 6, none⟩ (.slice eA n eC) := ⟨_, rfl⟩
      have A4 : Hid (BF w.heap.size #[.int .i64 id, .int .i64 nd, .int .i64 tm, .int .i64 vt, .int .i64 ro, .bool up, .slice eA n eC, .int .i64 cm, .int .i64 el, .int .i64 wt, .slice av nv cv, .slice ax nx cx, .slice ag ng cg] u4) := by rw [hv]; exact (unhide A3).set 6 (by simp) _
      have Z4 : Hid (BF (w.heap.size + 1) #[.int .i64 0, .int .i64 0, .int .i64 0, .int .i64 0, .int .i64 0, .bool false, .slice none 0 0, .int .i64 0, .int .i64 0, .int .i64 0, .slice none 0 0, .slice none 0 0, .slice none 0 0] u4) := by rw [hv]; exact (unhide Z3).far ⟨w.heap.size, 6, none⟩ _ (by show w.heap.size ≠ w.heap.size + 1; omega)
      have B4 : Hid (Below w.heap.size w u4) := by rw [hv]; exact Below.setCell (unhide B3) (by exact Nat.le_refl _) _
      have e4 : Hid (HeldZ 2 u4 loe hie 68 (.slice eA n eC) n (cE l)) := by rw [hv]; exact HeldZ.setC (unhide e3) (by show w.heap.size < loe; have := unhide oe; omega) _
      have v4 : Hid (Held u4 lov hiv 3 (.slice vA nv vC) nv (cI lv)) := by rw [hv]; exact Held.setC (unhide v3) (by show w.heap.size < lov; have := unhide ov; omega) _
      go_simp
      rw [← hv]
      refine hK.out _ _ ?_ (fun hHeld7 => ?_)
      · trivial
      clear hK K
      try simp only [Act.put, qqA, qqB, qqC]
      clear hv ka kaf A3 Z3 B3 e3 v3
      refine wtk (i := 8) (oi := oCopN6) (v := ?_) rfl (Or.inl ⟨by rfl, ?_⟩) (by assumption) ?_
      rotate_left 1
      · (intro w' hSw; (try dsimp only at hSw); go_simp; try with_reducible rfl)
      try simp only [Act.put, qqA, qqB, qqC]
      refine wpAnyH_ready (rs := [9]) (by kernel_rfl) (by simp) ?_
      refine AllReadyH.cons (o := oCopN7) rfl (fun K hK => ?_) AllReadyH.nil
      have ka := (unhide A4).S
      have kaf := (unhide A4).F
      obtain ⟨u5, hv⟩ : ∃ w9, w9 = u4.setCell ⟨w.heap.size, 10, none⟩ (.slice vA nv vC) := ⟨_, rfl⟩
      have A5 : Hid (BF w.heap.size #[.int .i64 id, .int .i64 nd, .int .i64 tm, .int .i64 vt, .int .i64 ro, .bool up, .slice eA n eC, .int .i64 cm, .int .i64 el, .int .i64 wt, .slice vA nv vC, .slice ax nx cx, .slice ag ng cg] u5) := by rw [hv]; exact (unhide A4).set 10 (by simp) _
      have Z5 : Hid (BF (w.heap.size + 1) #[.int .i64 0, .int .i64 0, .int .i64 0, .int .i64 0, .int .i64 0, .bool false, .slice none 0 0, .int .i64 0, .int .i64 0, .int .i64 0, .slice none 0 0, .slice none 0 0, .slice none 0 0] u5) := by rw [hv]; exact (unhide Z4).far ⟨w.heap.size, 10, none⟩ _ (by show w.heap.size ≠ w.heap.size + 1; omega)
      have B5 : Hid (Below w.heap.size w u5) := by rw [hv]; exact Below.setCell (unhide B4) (by exact Nat.le_refl _) _
      have e5 : Hid (HeldZ 2 u5 loe hie 68 (.slice eA n eC) n (cE l)) := by rw [hv]; exact HeldZ.setC (unhide e4) (by show w.heap.size < loe; have := unhide oe; omega) _
      have v5 : Hid (Held u5 lov hiv 3 (.slice vA nv vC) nv (cI lv)) := by rw [hv]; exact Held.setC (unhide v4) (by show w.heap.size < lov; have := unhide ov; omega) _
      go_simp
      rw [← hv]
      refine hK.out _ _ ?_ (fun hHeld9 => ?_)
      · trivial
      clear hK K
      try simp only [Act.put, qqA, qqB, qqC]
      clear hv ka kaf A4 Z4 B4 e4 v4
      refine wpAnyH_done (by kernel_rfl) ?_ _
      have AD := hide (unhide A5).drew
      have ZD := hide (unhide Z5).drew
      have BD := hide (unhide B5).drew
      have eD := hide ((unhide e5).below (Below.refl _ _).drew (unhide e5).le)
      have vD := hide ((unhide v5).below (Below.refl _ _).drew (unhide v5).le)
      clear A5 Z5 B5 e5 v5
      go_wp2_with fail
      refine wp_region_held_drew (S := fun w' => True) (by kernel_rfl) trivial (fun hHeld => ?_)
      generalize u5.drew = u1005 at AD ZD BD eD vD hHeld ⊢
      refine wtk (i := 0) (oi := oCopN8) (v := ?_) rfl (Or.inl ⟨by rfl, ?_⟩) (by assumption) ?_
      rotate_left 1
      · (intro w' hSw; (try dsimp only at hSw); go_simp; try with_reducible rfl)
      try simp only [Act.put, qqA, qqB, qqC]
      refine wtk (i := 3) (oi := oCopN9) (v := ?_) rfl (Or.inl ⟨by rfl, ?_⟩) (by assumption) ?_
      rotate_left 1
      · (intro w' hSw; (try dsimp only at hSw); go_simp; try with_reducible rfl)
      try simp only [Act.put, qqA, qqB, qqC]
      have A6 := AD
      have Z6 := ZD
      have B6 := BD
      have e6 := eD
      have v6 := vD
      clear AD ZD BD eD vD
      refine wpAnyH_ready (rs := [1, 4]) (by kernel_rfl) (by simp) ?_
      refine AllReadyH.cons (o := oCopN10) rfl (fun K hK => ?_) (AllReadyH.cons (o := oCopN11) rfl (fun K hK => ?_) AllReadyH.nil)
      · skip
        have ka := (unhide A6).S
        go_simp
        refine hK.out _ _ ?_ (fun hHeld1 => ?_)
        · trivial
        clear hK K
        try simp only [Act.put, qqA, qqB, qqC]
        clear ka
        refine wpAnyH_ready (rs := [2, 4]) (by kernel_rfl) (by simp) ?_
        refine AllReadyH.cons (o := oCopN12) rfl (fun K hK => ?_) (AllReadyH.cons (o := oCopN11) rfl (fun K hK => ?_) AllReadyH.nil)
        · skip
          go_simp
          refine (jcloneA ax cx nx lx HNx hnx _ ((unhide HRx).below (unhide B6))).mono ?_
          rintro e u7 ⟨vv, rfl, ho, hb⟩
          obtain ⟨xA, xC, rfl, -⟩ := ownZ_rowV ho
          have A7 := hide ((unhide A6).below hb)
          have Z7 := hide ((unhide Z6).below hb)
          have B7 := hide ((unhide B6).trans (hb.mono (unhide B6).size))
          have e7 := hide ((unhide e6).below hb (unhide e6).le)
          have v7 := hide ((unhide v6).below hb (unhide v6).le)
          have x7 := hide (held_of ho)
          obtain ⟨lox, hlx⟩ : ∃ q, q = u1005.heap.size := ⟨_, rfl⟩
          obtain ⟨hix, hhx⟩ : ∃ q, q = u7.heap.size := ⟨_, rfl⟩
          have ox : Hid (w.heap.size + 2 ≤ lox) := by show _ ≤ _; rw [hlx]; have := (unhide Z6).lt; omega
          have olx : Hid (lox ≤ hix) := by show _ ≤ _; rw [hlx, hhx]; exact hb.size
          have oox : Hid (hiv ≤ lox) := by show _ ≤ _; rw [hlx]; exact (unhide v6).le
          rw [← hlx, ← hhx] at x7
          clear hb ho hlx hhx A6 Z6 B6 e6 v6
          go_wp2_with fail
          refine hK.out _ _ ?_ (fun hHeld2 => ?_)
          · trivial
          clear hK K
          try simp only [Act.put, qqA, qqB, qqC]
          refine wpAnyH_ready (rs := [4]) (by kernel_rfl) (by simp) ?_
          refine AllReadyH.cons (o := oCopN11) rfl (fun K hK => ?_) AllReadyH.nil
          have ka := (unhide A7).S
          go_simp
          refine hK.out _ _ ?_ (fun hHeld4 => ?_)
          · trivial
          clear hK K
          try simp only [Act.put, qqA, qqB, qqC]
          clear ka
          refine wtk (i := 6) (oi := oCopN13) (v := ?_) rfl (Or.inl ⟨by rfl, ?_⟩) (by assumption) ?_
          rotate_left 1
          · (intro w' hSw; (try dsimp only at hSw); go_simp; try with_reducible rfl)
          try simp only [Act.put, qqA, qqB, qqC]
          refine wpAnyH_ready (rs := [5]) (by kernel_rfl) (by simp) ?_
          refine AllReadyH.cons (o := oCopN14) rfl (fun K hK => ?_) AllReadyH.nil
          go_simp
          refine (jcloneA ag cg ng lg HNg hng _ ((unhide HRg).below (unhide B7))).mono ?_
          rintro e u8 ⟨vv, rfl, ho, hb⟩
          obtain ⟨gA, gC, rfl, -⟩ := ownZ_rowV ho
          have A8 := hide ((unhide A7).below hb)
          have Z8 := hide ((unhide Z7).below hb)
          have B8 := hide ((unhide B7).trans (hb.mono (unhide B7).size))
          have e8 := hide ((unhide e7).below hb (unhide e7).le)
          have v8 := hide ((unhide v7).below hb (unhide v7).le)
          have x8 := hide ((unhide x7).below hb (unhide x7).le)
          have g8 := hide (held_of ho)
          obtain ⟨log, hlg⟩ : ∃ q, q = u7.heap.size := ⟨_, rfl⟩
          obtain ⟨hig, hhg⟩ : ∃ q, q = u8.heap.size := ⟨_, rfl⟩
          have og : Hid (w.heap.size + 2 ≤ log) := by show _ ≤ _; rw [hlg]; have := (unhide Z7).lt; omega
          have olg : Hid (log ≤ hig) := by show _ ≤ _; rw [hlg, hhg]; exact hb.size
          have oog : Hid (hix ≤ log) := by show _ ≤ _; rw [hlg]; exact (unhide x7).le
          rw [← hlg, ← hhg] at g8
          clear hb ho hlg hhg A7 Z7 B7 e7 v7 x7
          go_wp2_with fail
          refine hK.out _ _ ?_ (fun hHeld5 => ?_)
          · trivial
          clear hK K
          try simp only [Act.put, qqA, qqB, qqC]
          refine wpAnyH_ready (rs := [7]) (by kernel_rfl) (by simp) ?_
          refine AllReadyH.cons (o := oCopN15) rfl (fun K hK => ?_) AllReadyH.nil
          have ka := (unhide A8).S
          have kaf := (unhide A8).F
          obtain ⟨u9, hv⟩ : ∃ w9, w9 = u8.setCell ⟨w.heap.size, 11, none⟩ (.slice xA nx xC) := ⟨_, rfl⟩
          have A9 : Hid (BF w.heap.size #[.int .i64 id, .int .i64 nd, .int .i64 tm, .int .i64 vt, .int .i64 ro, .bool up, .slice eA n eC, .int .i64 cm, .int .i64 el, .int .i64 wt, .slice vA nv vC, .slice xA nx xC, .slice ag ng cg] u9) := by rw [hv]; exact (unhide A8).set 11 (by simp) _
          have Z9 : Hid (BF (w.heap.size + 1) #[.int .i64 0, .int .i64 0, .int .i64 0, .int .i64 0, .int .i64 0, .bool false, .slice none 0 0, .int .i64 0, .int .i64 0, .int .i64 0, .slice none 0 0, .slice none 0 0, .slice none 0 0] u9) := by rw [hv]; exact (unhide Z8).far ⟨w.heap.size, 11, none⟩ _ (by show w.heap.size ≠ w.heap.size + 1; omega)
          have B9 : Hid (Below w.heap.size w u9) := by rw [hv]; exact Below.setCell (unhide B8) (by exact Nat.le_refl _) _
          have e9 : Hid (HeldZ 2 u9 loe hie 68 (.slice eA n eC) n (cE l)) := by rw [hv]; exact HeldZ.setC (unhide e8) (by show w.heap.size < loe; have := unhide oe; omega) _
          have v9 : Hid (Held u9 lov hiv 3 (.slice vA nv vC) nv (cI lv)) := by rw [hv]; exact Held.setC (unhide v8) (by show w.heap.size < lov; have := unhide ov; omega) _
          have x9 : Hid (Held u9 lox hix 3 (.slice xA nx xC) nx (cI lx)) := by rw [hv]; exact Held.setC (unhide x8) (by show w.heap.size < lox; have := unhide ox; omega) _
          have g9 : Hid (Held u9 log hig 3 (.slice gA ng gC) ng (cI lg)) := by rw [hv]; exact Held.setC (unhide g8) (by show w.heap.size < log; have := unhide og; omega) _
          go_simp
          rw [← hv]
          refine hK.out _ _ ?_ (fun hHeld7 => ?_)
          · trivial
          clear hK K
          try simp only [Act.put, qqA, qqB, qqC]
          clear hv ka kaf A8 Z8 B8 e8 v8 x8 g8
          refine wtk (i := 8) (oi := oCopN16) (v := ?_) rfl (Or.inl ⟨by rfl, ?_⟩) (by assumption) ?_
          rotate_left 1
          · (intro w' hSw; (try dsimp only at hSw); go_simp; try with_reducible rfl)
          try simp only [Act.put, qqA, qqB, qqC]
          refine wpAnyH_ready (rs := [9]) (by kernel_rfl) (by simp) ?_
          refine AllReadyH.cons (o := oCopN17) rfl (fun K hK => ?_) AllReadyH.nil
          have ka := (unhide A9).S
          have kaf := (unhide A9).F
          obtain ⟨u10, hv⟩ : ∃ w9, w9 = u9.setCell ⟨w.heap.size, 12, none⟩ (.slice gA ng gC) := ⟨_, rfl⟩
          have A10 : Hid (BF w.heap.size #[.int .i64 id, .int .i64 nd, .int .i64 tm, .int .i64 vt, .int .i64 ro, .bool up, .slice eA n eC, .int .i64 cm, .int .i64 el, .int .i64 wt, .slice vA nv vC, .slice xA nx xC, .slice gA ng gC] u10) := by rw [hv]; exact (unhide A9).set 12 (by simp) _
          have Z10 : Hid (BF (w.heap.size + 1) #[.int .i64 0, .int .i64 0, .int .i64 0, .int .i64 0, .int .i64 0, .bool false, .slice none 0 0, .int .i64 0, .int .i64 0, .int .i64 0, .slice none 0 0, .slice none 0 0, .slice none 0 0] u10) := by rw [hv]; exact (unhide Z9).far ⟨w.heap.size, 12, none⟩ _ (by show w.heap.size ≠ w.heap.size + 1; omega)
          have B10 : Hid (Below w.heap.size w u10) := by rw [hv]; exact Below.setCell (unhide B9) (by exact Nat.le_refl _) _
          have e10 : Hid (HeldZ 2 u10 loe hie 68 (.slice eA n eC) n (cE l)) := by rw [hv]; exact HeldZ.setC (unhide e9) (by show w.heap.size < loe; have := unhide oe; omega) _
          have v10 : Hid (Held u10 lov hiv 3 (.slice vA nv vC) nv (cI lv)) := by rw [hv]; exact Held.setC (unhide v9) (by show w.heap.size < lov; have := unhide ov; omega) _
          have x10 : Hid (Held u10 lox hix 3 (.slice xA nx xC) nx (cI lx)) := by rw [hv]; exact Held.setC (unhide x9) (by show w.heap.size < lox; have := unhide ox; omega) _
          have g10 : Hid (Held u10 log hig 3 (.slice gA ng gC) ng (cI lg)) := by rw [hv]; exact Held.setC (unhide g9) (by show w.heap.size < log; have := unhide og; omega) _
          go_simp
          rw [← hv]
          refine hK.out _ _ ?_ (fun hHeld9 => ?_)
          · trivial
          clear hK K
          try simp only [Act.put, qqA, qqB, qqC]
          clear hv ka kaf A9 Z9 B9 e9 v9 x9 g9
          refine wpAnyH_done (by kernel_rfl) ?_ _
          have ka := (unhide A10).S
          have kz := (unhide Z10).S
          have kzf := (unhide Z10).F
          go_wp2_with fail
          refine bodyPost_ret (v := .agg #[.int .i64 id, .int .i64 nd, .int .i64 tm, .int .i64 vt, .int .i64 ro, .bool up, .slice eA n eC, .int .i64 cm, .int .i64 el, .int .i64 wt, .slice vA nv vC, .slice xA nx xC, .slice gA ng gC]) (by simp [results, Try.results24, go_sem, kz]) rfl ⟨eA, eC, vA, vC, xA, xC, gA, gC, loe, hie, lov, hiv, lox, hix, log, hig, rfl, ?_, ?_, ?_, ?_, ⟨by have := unhide oe; omega, unhide oov, unhide oox, unhide oog⟩, ⟨unhide ole, unhide olv, unhide olx, unhide olg⟩, ?_⟩
          · iterate 13 refine HeldZ.setC ?_ (by show w.heap.size + 1 < loe; have := unhide oe; omega) _
            exact unhide e10
          · iterate 13 refine Held.setC ?_ (by show w.heap.size + 1 < lov; have := unhide ov; omega) _
            exact unhide v10
          · iterate 13 refine Held.setC ?_ (by show w.heap.size + 1 < lox; have := unhide ox; omega) _
            exact unhide x10
          · iterate 13 refine Held.setC ?_ (by show w.heap.size + 1 < log; have := unhide og; omega) _
            exact unhide g10
          · iterate 13 refine Below.setCell ?_ (by exact Nat.le_succ _) _
            exact unhide B10
        · skip
          have ka := (unhide A6).S
          go_simp
          refine hK.out _ _ ?_ (fun hHeld4 => ?_)
          · trivial
          clear hK K
          try simp only [Act.put, qqA, qqB, qqC]
          clear ka
          refine wpAnyH_ready (rs := [2]) (by kernel_rfl) (by simp) ?_
          refine AllReadyH.cons (o := oCopN12) rfl (fun K hK => ?_) AllReadyH.nil
          go_simp
          refine (jcloneA ax cx nx lx HNx hnx _ ((unhide HRx).below (unhide B6))).mono ?_
          rintro e u11 ⟨vv, rfl, ho, hb⟩
          obtain ⟨xA, xC, rfl, -⟩ := ownZ_rowV ho
          have A11 := hide ((unhide A6).below hb)
          have Z11 := hide ((unhide Z6).below hb)
          have B11 := hide ((unhide B6).trans (hb.mono (unhide B6).size))
          have e11 := hide ((unhide e6).below hb (unhide e6).le)
          have v11 := hide ((unhide v6).below hb (unhide v6).le)
          have x11 := hide (held_of ho)
          obtain ⟨lox, hlx⟩ : ∃ q, q = u1005.heap.size := ⟨_, rfl⟩
          obtain ⟨hix, hhx⟩ : ∃ q, q = u11.heap.size := ⟨_, rfl⟩
          have ox : Hid (w.heap.size + 2 ≤ lox) := by show _ ≤ _; rw [hlx]; have := (unhide Z6).lt; omega
          have olx : Hid (lox ≤ hix) := by show _ ≤ _; rw [hlx, hhx]; exact hb.size
          have oox : Hid (hiv ≤ lox) := by show _ ≤ _; rw [hlx]; exact (unhide v6).le
          rw [← hlx, ← hhx] at x11
          clear hb ho hlx hhx A6 Z6 B6 e6 v6
          go_wp2_with fail
          refine hK.out _ _ ?_ (fun hHeld2 => ?_)
          · trivial
          clear hK K
          try simp only [Act.put, qqA, qqB, qqC]
          refine wtk (i := 6) (oi := oCopN13) (v := ?_) rfl (Or.inl ⟨by rfl, ?_⟩) (by assumption) ?_
          rotate_left 1
          · (intro w' hSw; (try dsimp only at hSw); go_simp; try with_reducible rfl)
          try simp only [Act.put, qqA, qqB, qqC]
          refine wpAnyH_ready (rs := [5]) (by kernel_rfl) (by simp) ?_
          refine AllReadyH.cons (o := oCopN14) rfl (fun K hK => ?_) AllReadyH.nil
          go_simp
          refine (jcloneA ag cg ng lg HNg hng _ ((unhide HRg).below (unhide B11))).mono ?_
          rintro e u12 ⟨vv, rfl, ho, hb⟩
          obtain ⟨gA, gC, rfl, -⟩ := ownZ_rowV ho
          have A12 := hide ((unhide A11).below hb)
          have Z12 := hide ((unhide Z11).below hb)
          have B12 := hide ((unhide B11).trans (hb.mono (unhide B11).size))
          have e12 := hide ((unhide e11).below hb (unhide e11).le)
          have v12 := hide ((unhide v11).below hb (unhide v11).le)
          have x12 := hide ((unhide x11).below hb (unhide x11).le)
          have g12 := hide (held_of ho)
          obtain ⟨log, hlg⟩ : ∃ q, q = u11.heap.size := ⟨_, rfl⟩
          obtain ⟨hig, hhg⟩ : ∃ q, q = u12.heap.size := ⟨_, rfl⟩
          have og : Hid (w.heap.size + 2 ≤ log) := by show _ ≤ _; rw [hlg]; have := (unhide Z11).lt; omega
          have olg : Hid (log ≤ hig) := by show _ ≤ _; rw [hlg, hhg]; exact hb.size
          have oog : Hid (hix ≤ log) := by show _ ≤ _; rw [hlg]; exact (unhide x11).le
          rw [← hlg, ← hhg] at g12
          clear hb ho hlg hhg A11 Z11 B11 e11 v11 x11
          go_wp2_with fail
          refine hK.out _ _ ?_ (fun hHeld5 => ?_)
          · trivial
          clear hK K
          try simp only [Act.put, qqA, qqB, qqC]
          refine wpAnyH_ready (rs := [7]) (by kernel_rfl) (by simp) ?_
          refine AllReadyH.cons (o := oCopN15) rfl (fun K hK => ?_) AllReadyH.nil
          have ka := (unhide A12).S
          have kaf := (unhide A12).F
          obtain ⟨u13, hv⟩ : ∃ w9, w9 = u12.setCell ⟨w.heap.size, 11, none⟩ (.slice xA nx xC) := ⟨_, rfl⟩
          have A13 : Hid (BF w.heap.size #[.int .i64 id, .int .i64 nd, .int .i64 tm, .int .i64 vt, .int .i64 ro, .bool up, .slice eA n eC, .int .i64 cm, .int .i64 el, .int .i64 wt, .slice vA nv vC, .slice xA nx xC, .slice ag ng cg] u13) := by rw [hv]; exact (unhide A12).set 11 (by simp) _
          have Z13 : Hid (BF (w.heap.size + 1) #[.int .i64 0, .int .i64 0, .int .i64 0, .int .i64 0, .int .i64 0, .bool false, .slice none 0 0, .int .i64 0, .int .i64 0, .int .i64 0, .slice none 0 0, .slice none 0 0, .slice none 0 0] u13) := by rw [hv]; exact (unhide Z12).far ⟨w.heap.size, 11, none⟩ _ (by show w.heap.size ≠ w.heap.size + 1; omega)
          have B13 : Hid (Below w.heap.size w u13) := by rw [hv]; exact Below.setCell (unhide B12) (by exact Nat.le_refl _) _
          have e13 : Hid (HeldZ 2 u13 loe hie 68 (.slice eA n eC) n (cE l)) := by rw [hv]; exact HeldZ.setC (unhide e12) (by show w.heap.size < loe; have := unhide oe; omega) _
          have v13 : Hid (Held u13 lov hiv 3 (.slice vA nv vC) nv (cI lv)) := by rw [hv]; exact Held.setC (unhide v12) (by show w.heap.size < lov; have := unhide ov; omega) _
          have x13 : Hid (Held u13 lox hix 3 (.slice xA nx xC) nx (cI lx)) := by rw [hv]; exact Held.setC (unhide x12) (by show w.heap.size < lox; have := unhide ox; omega) _
          have g13 : Hid (Held u13 log hig 3 (.slice gA ng gC) ng (cI lg)) := by rw [hv]; exact Held.setC (unhide g12) (by show w.heap.size < log; have := unhide og; omega) _
          go_simp
          rw [← hv]
          refine hK.out _ _ ?_ (fun hHeld7 => ?_)
          · trivial
          clear hK K
          try simp only [Act.put, qqA, qqB, qqC]
          clear hv ka kaf A12 Z12 B12 e12 v12 x12 g12
          refine wtk (i := 8) (oi := oCopN16) (v := ?_) rfl (Or.inl ⟨by rfl, ?_⟩) (by assumption) ?_
          rotate_left 1
          · (intro w' hSw; (try dsimp only at hSw); go_simp; try with_reducible rfl)
          try simp only [Act.put, qqA, qqB, qqC]
          refine wpAnyH_ready (rs := [9]) (by kernel_rfl) (by simp) ?_
          refine AllReadyH.cons (o := oCopN17) rfl (fun K hK => ?_) AllReadyH.nil
          have ka := (unhide A13).S
          have kaf := (unhide A13).F
          obtain ⟨u14, hv⟩ : ∃ w9, w9 = u13.setCell ⟨w.heap.size, 12, none⟩ (.slice gA ng gC) := ⟨_, rfl⟩
          have A14 : Hid (BF w.heap.size #[.int .i64 id, .int .i64 nd, .int .i64 tm, .int .i64 vt, .int .i64 ro, .bool up, .slice eA n eC, .int .i64 cm, .int .i64 el, .int .i64 wt, .slice vA nv vC, .slice xA nx xC, .slice gA ng gC] u14) := by rw [hv]; exact (unhide A13).set 12 (by simp) _
          have Z14 : Hid (BF (w.heap.size + 1) #[.int .i64 0, .int .i64 0, .int .i64 0, .int .i64 0, .int .i64 0, .bool false, .slice none 0 0, .int .i64 0, .int .i64 0, .int .i64 0, .slice none 0 0, .slice none 0 0, .slice none 0 0] u14) := by rw [hv]; exact (unhide Z13).far ⟨w.heap.size, 12, none⟩ _ (by show w.heap.size ≠ w.heap.size + 1; omega)
          have B14 : Hid (Below w.heap.size w u14) := by rw [hv]; exact Below.setCell (unhide B13) (by exact Nat.le_refl _) _
          have e14 : Hid (HeldZ 2 u14 loe hie 68 (.slice eA n eC) n (cE l)) := by rw [hv]; exact HeldZ.setC (unhide e13) (by show w.heap.size < loe; have := unhide oe; omega) _
          have v14 : Hid (Held u14 lov hiv 3 (.slice vA nv vC) nv (cI lv)) := by rw [hv]; exact Held.setC (unhide v13) (by show w.heap.size < lov; have := unhide ov; omega) _
          have x14 : Hid (Held u14 lox hix 3 (.slice xA nx xC) nx (cI lx)) := by rw [hv]; exact Held.setC (unhide x13) (by show w.heap.size < lox; have := unhide ox; omega) _
          have g14 : Hid (Held u14 log hig 3 (.slice gA ng gC) ng (cI lg)) := by rw [hv]; exact Held.setC (unhide g13) (by show w.heap.size < log; have := unhide og; omega) _
          go_simp
          rw [← hv]
          refine hK.out _ _ ?_ (fun hHeld9 => ?_)
          · trivial
          clear hK K
          try simp only [Act.put, qqA, qqB, qqC]
          clear hv ka kaf A13 Z13 B13 e13 v13 x13 g13
          refine wpAnyH_done (by kernel_rfl) ?_ _
          have ka := (unhide A14).S
          have kz := (unhide Z14).S
          have kzf := (unhide Z14).F
          go_wp2_with fail
          refine bodyPost_ret (v := .agg #[.int .i64 id, .int .i64 nd, .int .i64 tm, .int .i64 vt, .int .i64 ro, .bool up, .slice eA n eC, .int .i64 cm, .int .i64 el, .int .i64 wt, .slice vA nv vC, .slice xA nx xC, .slice gA ng gC]) (by simp [results, Try.results24, go_sem, kz]) rfl ⟨eA, eC, vA, vC, xA, xC, gA, gC, loe, hie, lov, hiv, lox, hix, log, hig, rfl, ?_, ?_, ?_, ?_, ⟨by have := unhide oe; omega, unhide oov, unhide oox, unhide oog⟩, ⟨unhide ole, unhide olv, unhide olx, unhide olg⟩, ?_⟩
          · iterate 13 refine HeldZ.setC ?_ (by show w.heap.size + 1 < loe; have := unhide oe; omega) _
            exact unhide e14
          · iterate 13 refine Held.setC ?_ (by show w.heap.size + 1 < lov; have := unhide ov; omega) _
            exact unhide v14
          · iterate 13 refine Held.setC ?_ (by show w.heap.size + 1 < lox; have := unhide ox; omega) _
            exact unhide x14
          · iterate 13 refine Held.setC ?_ (by show w.heap.size + 1 < log; have := unhide og; omega) _
            exact unhide g14
          · iterate 13 refine Below.setCell ?_ (by exact Nat.le_succ _) _
            exact unhide B14
      · skip
        have ka := (unhide A6).S
        go_simp
        refine hK.out _ _ ?_ (fun hHeld4 => ?_)
        · trivial
        clear hK K
        try simp only [Act.put, qqA, qqB, qqC]
        clear ka
        refine wpAnyH_ready (rs := [1]) (by kernel_rfl) (by simp) ?_
        refine AllReadyH.cons (o := oCopN10) rfl (fun K hK => ?_) AllReadyH.nil
        have ka := (unhide A6).S
        go_simp
        refine hK.out _ _ ?_ (fun hHeld1 => ?_)
        · trivial
        clear hK K
        try simp only [Act.put, qqA, qqB, qqC]
        clear ka
        refine wpAnyH_ready (rs := [2]) (by kernel_rfl) (by simp) ?_
        refine AllReadyH.cons (o := oCopN12) rfl (fun K hK => ?_) AllReadyH.nil
        go_simp
        refine (jcloneA ax cx nx lx HNx hnx _ ((unhide HRx).below (unhide B6))).mono ?_
        rintro e u15 ⟨vv, rfl, ho, hb⟩
        obtain ⟨xA, xC, rfl, -⟩ := ownZ_rowV ho
        have A15 := hide ((unhide A6).below hb)
        have Z15 := hide ((unhide Z6).below hb)
        have B15 := hide ((unhide B6).trans (hb.mono (unhide B6).size))
        have e15 := hide ((unhide e6).below hb (unhide e6).le)
        have v15 := hide ((unhide v6).below hb (unhide v6).le)
        have x15 := hide (held_of ho)
        obtain ⟨lox, hlx⟩ : ∃ q, q = u1005.heap.size := ⟨_, rfl⟩
        obtain ⟨hix, hhx⟩ : ∃ q, q = u15.heap.size := ⟨_, rfl⟩
        have ox : Hid (w.heap.size + 2 ≤ lox) := by show _ ≤ _; rw [hlx]; have := (unhide Z6).lt; omega
        have olx : Hid (lox ≤ hix) := by show _ ≤ _; rw [hlx, hhx]; exact hb.size
        have oox : Hid (hiv ≤ lox) := by show _ ≤ _; rw [hlx]; exact (unhide v6).le
        rw [← hlx, ← hhx] at x15
        clear hb ho hlx hhx A6 Z6 B6 e6 v6
        go_wp2_with fail
        refine hK.out _ _ ?_ (fun hHeld2 => ?_)
        · trivial
        clear hK K
        try simp only [Act.put, qqA, qqB, qqC]
        refine wtk (i := 6) (oi := oCopN13) (v := ?_) rfl (Or.inl ⟨by rfl, ?_⟩) (by assumption) ?_
        rotate_left 1
        · (intro w' hSw; (try dsimp only at hSw); go_simp; try with_reducible rfl)
        try simp only [Act.put, qqA, qqB, qqC]
        refine wpAnyH_ready (rs := [5]) (by kernel_rfl) (by simp) ?_
        refine AllReadyH.cons (o := oCopN14) rfl (fun K hK => ?_) AllReadyH.nil
        go_simp
        refine (jcloneA ag cg ng lg HNg hng _ ((unhide HRg).below (unhide B15))).mono ?_
        rintro e u16 ⟨vv, rfl, ho, hb⟩
        obtain ⟨gA, gC, rfl, -⟩ := ownZ_rowV ho
        have A16 := hide ((unhide A15).below hb)
        have Z16 := hide ((unhide Z15).below hb)
        have B16 := hide ((unhide B15).trans (hb.mono (unhide B15).size))
        have e16 := hide ((unhide e15).below hb (unhide e15).le)
        have v16 := hide ((unhide v15).below hb (unhide v15).le)
        have x16 := hide ((unhide x15).below hb (unhide x15).le)
        have g16 := hide (held_of ho)
        obtain ⟨log, hlg⟩ : ∃ q, q = u15.heap.size := ⟨_, rfl⟩
        obtain ⟨hig, hhg⟩ : ∃ q, q = u16.heap.size := ⟨_, rfl⟩
        have og : Hid (w.heap.size + 2 ≤ log) := by show _ ≤ _; rw [hlg]; have := (unhide Z15).lt; omega
        have olg : Hid (log ≤ hig) := by show _ ≤ _; rw [hlg, hhg]; exact hb.size
        have oog : Hid (hix ≤ log) := by show _ ≤ _; rw [hlg]; exact (unhide x15).le
        rw [← hlg, ← hhg] at g16
        clear hb ho hlg hhg A15 Z15 B15 e15 v15 x15
        go_wp2_with fail
        refine hK.out _ _ ?_ (fun hHeld5 => ?_)
        · trivial
        clear hK K
        try simp only [Act.put, qqA, qqB, qqC]
        refine wpAnyH_ready (rs := [7]) (by kernel_rfl) (by simp) ?_
        refine AllReadyH.cons (o := oCopN15) rfl (fun K hK => ?_) AllReadyH.nil
        have ka := (unhide A16).S
        have kaf := (unhide A16).F
        obtain ⟨u17, hv⟩ : ∃ w9, w9 = u16.setCell ⟨w.heap.size, 11, none⟩ (.slice xA nx xC) := ⟨_, rfl⟩
        have A17 : Hid (BF w.heap.size #[.int .i64 id, .int .i64 nd, .int .i64 tm, .int .i64 vt, .int .i64 ro, .bool up, .slice eA n eC, .int .i64 cm, .int .i64 el, .int .i64 wt, .slice vA nv vC, .slice xA nx xC, .slice ag ng cg] u17) := by rw [hv]; exact (unhide A16).set 11 (by simp) _
        have Z17 : Hid (BF (w.heap.size + 1) #[.int .i64 0, .int .i64 0, .int .i64 0, .int .i64 0, .int .i64 0, .bool false, .slice none 0 0, .int .i64 0, .int .i64 0, .int .i64 0, .slice none 0 0, .slice none 0 0, .slice none 0 0] u17) := by rw [hv]; exact (unhide Z16).far ⟨w.heap.size, 11, none⟩ _ (by show w.heap.size ≠ w.heap.size + 1; omega)
        have B17 : Hid (Below w.heap.size w u17) := by rw [hv]; exact Below.setCell (unhide B16) (by exact Nat.le_refl _) _
        have e17 : Hid (HeldZ 2 u17 loe hie 68 (.slice eA n eC) n (cE l)) := by rw [hv]; exact HeldZ.setC (unhide e16) (by show w.heap.size < loe; have := unhide oe; omega) _
        have v17 : Hid (Held u17 lov hiv 3 (.slice vA nv vC) nv (cI lv)) := by rw [hv]; exact Held.setC (unhide v16) (by show w.heap.size < lov; have := unhide ov; omega) _
        have x17 : Hid (Held u17 lox hix 3 (.slice xA nx xC) nx (cI lx)) := by rw [hv]; exact Held.setC (unhide x16) (by show w.heap.size < lox; have := unhide ox; omega) _
        have g17 : Hid (Held u17 log hig 3 (.slice gA ng gC) ng (cI lg)) := by rw [hv]; exact Held.setC (unhide g16) (by show w.heap.size < log; have := unhide og; omega) _
        go_simp
        rw [← hv]
        refine hK.out _ _ ?_ (fun hHeld7 => ?_)
        · trivial
        clear hK K
        try simp only [Act.put, qqA, qqB, qqC]
        clear hv ka kaf A16 Z16 B16 e16 v16 x16 g16
        refine wtk (i := 8) (oi := oCopN16) (v := ?_) rfl (Or.inl ⟨by rfl, ?_⟩) (by assumption) ?_
        rotate_left 1
        · (intro w' hSw; (try dsimp only at hSw); go_simp; try with_reducible rfl)
        try simp only [Act.put, qqA, qqB, qqC]
        refine wpAnyH_ready (rs := [9]) (by kernel_rfl) (by simp) ?_
        refine AllReadyH.cons (o := oCopN17) rfl (fun K hK => ?_) AllReadyH.nil
        have ka := (unhide A17).S
        have kaf := (unhide A17).F
        obtain ⟨u18, hv⟩ : ∃ w9, w9 = u17.setCell ⟨w.heap.size, 12, none⟩ (.slice gA ng gC) := ⟨_, rfl⟩
        have A18 : Hid (BF w.heap.size #[.int .i64 id, .int .i64 nd, .int .i64 tm, .int .i64 vt, .int .i64 ro, .bool up, .slice eA n eC, .int .i64 cm, .int .i64 el, .int .i64 wt, .slice vA nv vC, .slice xA nx xC, .slice gA ng gC] u18) := by rw [hv]; exact (unhide A17).set 12 (by simp) _
        have Z18 : Hid (BF (w.heap.size + 1) #[.int .i64 0, .int .i64 0, .int .i64 0, .int .i64 0, .int .i64 0, .bool false, .slice none 0 0, .int .i64 0, .int .i64 0, .int .i64 0, .slice none 0 0, .slice none 0 0, .slice none 0 0] u18) := by rw [hv]; exact (unhide Z17).far ⟨w.heap.size, 12, none⟩ _ (by show w.heap.size ≠ w.heap.size + 1; omega)
        have B18 : Hid (Below w.heap.size w u18) := by rw [hv]; exact Below.setCell (unhide B17) (by exact Nat.le_refl _) _
        have e18 : Hid (HeldZ 2 u18 loe hie 68 (.slice eA n eC) n (cE l)) := by rw [hv]; exact HeldZ.setC (unhide e17) (by show w.heap.size < loe; have := unhide oe; omega) _
        have v18 : Hid (Held u18 lov hiv 3 (.slice vA nv vC) nv (cI lv)) := by rw [hv]; exact Held.setC (unhide v17) (by show w.heap.size < lov; have := unhide ov; omega) _
        have x18 : Hid (Held u18 lox hix 3 (.slice xA nx xC) nx (cI lx)) := by rw [hv]; exact Held.setC (unhide x17) (by show w.heap.size < lox; have := unhide ox; omega) _
        have g18 : Hid (Held u18 log hig 3 (.slice gA ng gC) ng (cI lg)) := by rw [hv]; exact Held.setC (unhide g17) (by show w.heap.size < log; have := unhide og; omega) _
        go_simp
        rw [← hv]
        refine hK.out _ _ ?_ (fun hHeld9 => ?_)
        · trivial
        clear hK K
        try simp only [Act.put, qqA, qqB, qqC]
        clear hv ka kaf A17 Z17 B17 e17 v17 x17 g17
        refine wpAnyH_done (by kernel_rfl) ?_ _
        have ka := (unhide A18).S
        have kz := (unhide Z18).S
        have kzf := (unhide Z18).F
        go_wp2_with fail
        refine bodyPost_ret (v := .agg #[.int .i64 id, .int .i64 nd, .int .i64 tm, .int .i64 vt, .int .i64 ro, .bool up, .slice eA n eC, .int .i64 cm, .int .i64 el, .int .i64 wt, .slice vA nv vC, .slice xA nx xC, .slice gA ng gC]) (by simp [results, Try.results24, go_sem, kz]) rfl ⟨eA, eC, vA, vC, xA, xC, gA, gC, loe, hie, lov, hiv, lox, hix, log, hig, rfl, ?_, ?_, ?_, ?_, ⟨by have := unhide oe; omega, unhide oov, unhide oox, unhide oog⟩, ⟨unhide ole, unhide olv, unhide olx, unhide olg⟩, ?_⟩
        · iterate 13 refine HeldZ.setC ?_ (by show w.heap.size + 1 < loe; have := unhide oe; omega) _
          exact unhide e18
        · iterate 13 refine Held.setC ?_ (by show w.heap.size + 1 < lov; have := unhide ov; omega) _
          exact unhide v18
        · iterate 13 refine Held.setC ?_ (by show w.heap.size + 1 < lox; have := unhide ox; omega) _
          exact unhide x18
        · iterate 13 refine Held.setC ?_ (by show w.heap.size + 1 < log; have := unhide og; omega) _
          exact unhide g18
        · iterate 13 refine Below.setCell ?_ (by exact Nat.le_succ _) _
          exact unhide B18
    · skip
      have ka := (unhide A1).S
      go_simp
      refine hK.out _ _ ?_ (fun hHeld4 => ?_)
      · trivial
      clear hK K
      try simp only [Act.put, qqA, qqB, qqC]
      clear ka
      refine wpAnyH_ready (rs := [2]) (by kernel_rfl) (by simp) ?_
      refine AllReadyH.cons (o := oCopN2) rfl (fun K hK => ?_) AllReadyH.nil
      go_simp
      refine (icloneA a cap n l HN hn _ ((unhide HRe).below (unhide B1))).mono ?_
      rintro e u19 ⟨vv, rfl, ho, hb⟩
      obtain ⟨eA, eC, rfl, -⟩ := ownZ_rowV ho
      have A19 := hide ((unhide A1).below hb)
      have Z19 := hide ((unhide Z1).below hb)
      have B19 := hide ((unhide B1).trans (hb.mono (unhide B1).size))
      have e19 := hide (heldZ_of ho)
      obtain ⟨loe, hle⟩ : ∃ q, q = u1000.heap.size := ⟨_, rfl⟩
      obtain ⟨hie, hhe⟩ : ∃ q, q = u19.heap.size := ⟨_, rfl⟩
      have oe : Hid (w.heap.size + 2 ≤ loe) := by show _ ≤ _; rw [hle]; have := (unhide Z1).lt; omega
      have ole : Hid (loe ≤ hie) := by show _ ≤ _; rw [hle, hhe]; exact hb.size
      rw [← hle, ← hhe] at e19
      clear hb ho hle hhe A1 Z1 B1 
      go_wp2_with fail
      refine hK.out _ _ ?_ (fun hHeld2 => ?_)
      · trivial
      clear hK K
      try simp only [Act.put, qqA, qqB, qqC]
      refine wtk (i := 6) (oi := oCopN3) (v := ?_) rfl (Or.inl ⟨by rfl, ?_⟩) (by assumption) ?_
      rotate_left 1
      · (intro w' hSw; (try dsimp only at hSw); go_simp; try with_reducible rfl)
      try simp only [Act.put, qqA, qqB, qqC]
      refine wpAnyH_ready (rs := [5]) (by kernel_rfl) (by simp) ?_
      refine AllReadyH.cons (o := oCopN4) rfl (fun K hK => ?_) AllReadyH.nil
      go_simp
      refine (jcloneA av cv nv lv HNv hnv _ ((unhide HRv).below (unhide B19))).mono ?_
      rintro e u20 ⟨vv, rfl, ho, hb⟩
      obtain ⟨vA, vC, rfl, -⟩ := ownZ_rowV ho
      have A20 := hide ((unhide A19).below hb)
      have Z20 := hide ((unhide Z19).below hb)
      have B20 := hide ((unhide B19).trans (hb.mono (unhide B19).size))
      have e20 := hide ((unhide e19).below hb (unhide e19).le)
      have v20 := hide (held_of ho)
      obtain ⟨lov, hlv⟩ : ∃ q, q = u19.heap.size := ⟨_, rfl⟩
      obtain ⟨hiv, hhv⟩ : ∃ q, q = u20.heap.size := ⟨_, rfl⟩
      have ov : Hid (w.heap.size + 2 ≤ lov) := by show _ ≤ _; rw [hlv]; have := (unhide Z19).lt; omega
      have olv : Hid (lov ≤ hiv) := by show _ ≤ _; rw [hlv, hhv]; exact hb.size
      have oov : Hid (hie ≤ lov) := by show _ ≤ _; rw [hlv]; exact (unhide e19).le
      rw [← hlv, ← hhv] at v20
      clear hb ho hlv hhv A19 Z19 B19 e19
      go_wp2_with fail
      refine hK.out _ _ ?_ (fun hHeld5 => ?_)
      · trivial
      clear hK K
      try simp only [Act.put, qqA, qqB, qqC]
      refine wpAnyH_ready (rs := [7]) (by kernel_rfl) (by simp) ?_
      refine AllReadyH.cons (o := oCopN5) rfl (fun K hK => ?_) AllReadyH.nil
      have ka := (unhide A20).S
      have kaf := (unhide A20).F
      obtain ⟨u21, hv⟩ : ∃ w9, w9 = u20.setCell ⟨w.heap.size, 6, none⟩ (.slice eA n eC) := ⟨_, rfl⟩
      have A21 : Hid (BF w.heap.size #[.int .i64 id, .int .i64 nd, .int .i64 tm, .int .i64 vt, .int .i64 ro, .bool up, .slice eA n eC, .int .i64 cm, .int .i64 el, .int .i64 wt, .slice av nv cv, .slice ax nx cx, .slice ag ng cg] u21) := by rw [hv]; exact (unhide A20).set 6 (by simp) _
      have Z21 : Hid (BF (w.heap.size + 1) #[.int .i64 0, .int .i64 0, .int .i64 0, .int .i64 0, .int .i64 0, .bool false, .slice none 0 0, .int .i64 0, .int .i64 0, .int .i64 0, .slice none 0 0, .slice none 0 0, .slice none 0 0] u21) := by rw [hv]; exact (unhide Z20).far ⟨w.heap.size, 6, none⟩ _ (by show w.heap.size ≠ w.heap.size + 1; omega)
      have B21 : Hid (Below w.heap.size w u21) := by rw [hv]; exact Below.setCell (unhide B20) (by exact Nat.le_refl _) _
      have e21 : Hid (HeldZ 2 u21 loe hie 68 (.slice eA n eC) n (cE l)) := by rw [hv]; exact HeldZ.setC (unhide e20) (by show w.heap.size < loe; have := unhide oe; omega) _
      have v21 : Hid (Held u21 lov hiv 3 (.slice vA nv vC) nv (cI lv)) := by rw [hv]; exact Held.setC (unhide v20) (by show w.heap.size < lov; have := unhide ov; omega) _
      go_simp
      rw [← hv]
      refine hK.out _ _ ?_ (fun hHeld7 => ?_)
      · trivial
      clear hK K
      try simp only [Act.put, qqA, qqB, qqC]
      clear hv ka kaf A20 Z20 B20 e20 v20
      refine wtk (i := 8) (oi := oCopN6) (v := ?_) rfl (Or.inl ⟨by rfl, ?_⟩) (by assumption) ?_
      rotate_left 1
      · (intro w' hSw; (try dsimp only at hSw); go_simp; try with_reducible rfl)
      try simp only [Act.put, qqA, qqB, qqC]
      refine wpAnyH_ready (rs := [9]) (by kernel_rfl) (by simp) ?_
      refine AllReadyH.cons (o := oCopN7) rfl (fun K hK => ?_) AllReadyH.nil
      have ka := (unhide A21).S
      have kaf := (unhide A21).F
      obtain ⟨u22, hv⟩ : ∃ w9, w9 = u21.setCell ⟨w.heap.size, 10, none⟩ (.slice vA nv vC) := ⟨_, rfl⟩
      have A22 : Hid (BF w.heap.size #[.int .i64 id, .int .i64 nd, .int .i64 tm, .int .i64 vt, .int .i64 ro, .bool up, .slice eA n eC, .int .i64 cm, .int .i64 el, .int .i64 wt, .slice vA nv vC, .slice ax nx cx, .slice ag ng cg] u22) := by rw [hv]; exact (unhide A21).set 10 (by simp) _
      have Z22 : Hid (BF (w.heap.size + 1) #[.int .i64 0, .int .i64 0, .int .i64 0, .int .i64 0, .int .i64 0, .bool false, .slice none 0 0, .int .i64 0, .int .i64 0, .int .i64 0, .slice none 0 0, .slice none 0 0, .slice none 0 0] u22) := by rw [hv]; exact (unhide Z21).far ⟨w.heap.size, 10, none⟩ _ (by show w.heap.size ≠ w.heap.size + 1; omega)
      have B22 : Hid (Below w.heap.size w u22) := by rw [hv]; exact Below.setCell (unhide B21) (by exact Nat.le_refl _) _
      have e22 : Hid (HeldZ 2 u22 loe hie 68 (.slice eA n eC) n (cE l)) := by rw [hv]; exact HeldZ.setC (unhide e21) (by show w.heap.size < loe; have := unhide oe; omega) _
      have v22 : Hid (Held u22 lov hiv 3 (.slice vA nv vC) nv (cI lv)) := by rw [hv]; exact Held.setC (unhide v21) (by show w.heap.size < lov; have := unhide ov; omega) _
      go_simp
      rw [← hv]
      refine hK.out _ _ ?_ (fun hHeld9 => ?_)
      · trivial
      clear hK K
      try simp only [Act.put, qqA, qqB, qqC]
      clear hv ka kaf A21 Z21 B21 e21 v21
      refine wpAnyH_done (by kernel_rfl) ?_ _
      have AD := hide (unhide A22).drew
      have ZD := hide (unhide Z22).drew
      have BD := hide (unhide B22).drew
      have eD := hide ((unhide e22).below (Below.refl _ _).drew (unhide e22).le)
      have vD := hide ((unhide v22).below (Below.refl _ _).drew (unhide v22).le)
      clear A22 Z22 B22 e22 v22
      go_wp2_with fail
      refine wp_region_held_drew (S := fun w' => True) (by kernel_rfl) trivial (fun hHeld => ?_)
      generalize u22.drew = u1022 at AD ZD BD eD vD hHeld ⊢
      refine wtk (i := 0) (oi := oCopN8) (v := ?_) rfl (Or.inl ⟨by rfl, ?_⟩) (by assumption) ?_
      rotate_left 1
      · (intro w' hSw; (try dsimp only at hSw); go_simp; try with_reducible rfl)
      try simp only [Act.put, qqA, qqB, qqC]
      refine wtk (i := 3) (oi := oCopN9) (v := ?_) rfl (Or.inl ⟨by rfl, ?_⟩) (by assumption) ?_
      rotate_left 1
      · (intro w' hSw; (try dsimp only at hSw); go_simp; try with_reducible rfl)
      try simp only [Act.put, qqA, qqB, qqC]
      have A23 := AD
      have Z23 := ZD
      have B23 := BD
      have e23 := eD
      have v23 := vD
      clear AD ZD BD eD vD
      refine wpAnyH_ready (rs := [1, 4]) (by kernel_rfl) (by simp) ?_
      refine AllReadyH.cons (o := oCopN10) rfl (fun K hK => ?_) (AllReadyH.cons (o := oCopN11) rfl (fun K hK => ?_) AllReadyH.nil)
      · skip
        have ka := (unhide A23).S
        go_simp
        refine hK.out _ _ ?_ (fun hHeld1 => ?_)
        · trivial
        clear hK K
        try simp only [Act.put, qqA, qqB, qqC]
        clear ka
        refine wpAnyH_ready (rs := [2, 4]) (by kernel_rfl) (by simp) ?_
        refine AllReadyH.cons (o := oCopN12) rfl (fun K hK => ?_) (AllReadyH.cons (o := oCopN11) rfl (fun K hK => ?_) AllReadyH.nil)
        · skip
          go_simp
          refine (jcloneA ax cx nx lx HNx hnx _ ((unhide HRx).below (unhide B23))).mono ?_
          rintro e u24 ⟨vv, rfl, ho, hb⟩
          obtain ⟨xA, xC, rfl, -⟩ := ownZ_rowV ho
          have A24 := hide ((unhide A23).below hb)
          have Z24 := hide ((unhide Z23).below hb)
          have B24 := hide ((unhide B23).trans (hb.mono (unhide B23).size))
          have e24 := hide ((unhide e23).below hb (unhide e23).le)
          have v24 := hide ((unhide v23).below hb (unhide v23).le)
          have x24 := hide (held_of ho)
          obtain ⟨lox, hlx⟩ : ∃ q, q = u1022.heap.size := ⟨_, rfl⟩
          obtain ⟨hix, hhx⟩ : ∃ q, q = u24.heap.size := ⟨_, rfl⟩
          have ox : Hid (w.heap.size + 2 ≤ lox) := by show _ ≤ _; rw [hlx]; have := (unhide Z23).lt; omega
          have olx : Hid (lox ≤ hix) := by show _ ≤ _; rw [hlx, hhx]; exact hb.size
          have oox : Hid (hiv ≤ lox) := by show _ ≤ _; rw [hlx]; exact (unhide v23).le
          rw [← hlx, ← hhx] at x24
          clear hb ho hlx hhx A23 Z23 B23 e23 v23
          go_wp2_with fail
          refine hK.out _ _ ?_ (fun hHeld2 => ?_)
          · trivial
          clear hK K
          try simp only [Act.put, qqA, qqB, qqC]
          refine wpAnyH_ready (rs := [4]) (by kernel_rfl) (by simp) ?_
          refine AllReadyH.cons (o := oCopN11) rfl (fun K hK => ?_) AllReadyH.nil
          have ka := (unhide A24).S
          go_simp
          refine hK.out _ _ ?_ (fun hHeld4 => ?_)
          · trivial
          clear hK K
          try simp only [Act.put, qqA, qqB, qqC]
          clear ka
          refine wtk (i := 6) (oi := oCopN13) (v := ?_) rfl (Or.inl ⟨by rfl, ?_⟩) (by assumption) ?_
          rotate_left 1
          · (intro w' hSw; (try dsimp only at hSw); go_simp; try with_reducible rfl)
          try simp only [Act.put, qqA, qqB, qqC]
          refine wpAnyH_ready (rs := [5]) (by kernel_rfl) (by simp) ?_
          refine AllReadyH.cons (o := oCopN14) rfl (fun K hK => ?_) AllReadyH.nil
          go_simp
          refine (jcloneA ag cg ng lg HNg hng _ ((unhide HRg).below (unhide B24))).mono ?_
          rintro e u25 ⟨vv, rfl, ho, hb⟩
          obtain ⟨gA, gC, rfl, -⟩ := ownZ_rowV ho
          have A25 := hide ((unhide A24).below hb)
          have Z25 := hide ((unhide Z24).below hb)
          have B25 := hide ((unhide B24).trans (hb.mono (unhide B24).size))
          have e25 := hide ((unhide e24).below hb (unhide e24).le)
          have v25 := hide ((unhide v24).below hb (unhide v24).le)
          have x25 := hide ((unhide x24).below hb (unhide x24).le)
          have g25 := hide (held_of ho)
          obtain ⟨log, hlg⟩ : ∃ q, q = u24.heap.size := ⟨_, rfl⟩
          obtain ⟨hig, hhg⟩ : ∃ q, q = u25.heap.size := ⟨_, rfl⟩
          have og : Hid (w.heap.size + 2 ≤ log) := by show _ ≤ _; rw [hlg]; have := (unhide Z24).lt; omega
          have olg : Hid (log ≤ hig) := by show _ ≤ _; rw [hlg, hhg]; exact hb.size
          have oog : Hid (hix ≤ log) := by show _ ≤ _; rw [hlg]; exact (unhide x24).le
          rw [← hlg, ← hhg] at g25
          clear hb ho hlg hhg A24 Z24 B24 e24 v24 x24
          go_wp2_with fail
          refine hK.out _ _ ?_ (fun hHeld5 => ?_)
          · trivial
          clear hK K
          try simp only [Act.put, qqA, qqB, qqC]
          refine wpAnyH_ready (rs := [7]) (by kernel_rfl) (by simp) ?_
          refine AllReadyH.cons (o := oCopN15) rfl (fun K hK => ?_) AllReadyH.nil
          have ka := (unhide A25).S
          have kaf := (unhide A25).F
          obtain ⟨u26, hv⟩ : ∃ w9, w9 = u25.setCell ⟨w.heap.size, 11, none⟩ (.slice xA nx xC) := ⟨_, rfl⟩
          have A26 : Hid (BF w.heap.size #[.int .i64 id, .int .i64 nd, .int .i64 tm, .int .i64 vt, .int .i64 ro, .bool up, .slice eA n eC, .int .i64 cm, .int .i64 el, .int .i64 wt, .slice vA nv vC, .slice xA nx xC, .slice ag ng cg] u26) := by rw [hv]; exact (unhide A25).set 11 (by simp) _
          have Z26 : Hid (BF (w.heap.size + 1) #[.int .i64 0, .int .i64 0, .int .i64 0, .int .i64 0, .int .i64 0, .bool false, .slice none 0 0, .int .i64 0, .int .i64 0, .int .i64 0, .slice none 0 0, .slice none 0 0, .slice none 0 0] u26) := by rw [hv]; exact (unhide Z25).far ⟨w.heap.size, 11, none⟩ _ (by show w.heap.size ≠ w.heap.size + 1; omega)
          have B26 : Hid (Below w.heap.size w u26) := by rw [hv]; exact Below.setCell (unhide B25) (by exact Nat.le_refl _) _
          have e26 : Hid (HeldZ 2 u26 loe hie 68 (.slice eA n eC) n (cE l)) := by rw [hv]; exact HeldZ.setC (unhide e25) (by show w.heap.size < loe; have := unhide oe; omega) _
          have v26 : Hid (Held u26 lov hiv 3 (.slice vA nv vC) nv (cI lv)) := by rw [hv]; exact Held.setC (unhide v25) (by show w.heap.size < lov; have := unhide ov; omega) _
          have x26 : Hid (Held u26 lox hix 3 (.slice xA nx xC) nx (cI lx)) := by rw [hv]; exact Held.setC (unhide x25) (by show w.heap.size < lox; have := unhide ox; omega) _
          have g26 : Hid (Held u26 log hig 3 (.slice gA ng gC) ng (cI lg)) := by rw [hv]; exact Held.setC (unhide g25) (by show w.heap.size < log; have := unhide og; omega) _
          go_simp
          rw [← hv]
          refine hK.out _ _ ?_ (fun hHeld7 => ?_)
          · trivial
          clear hK K
          try simp only [Act.put, qqA, qqB, qqC]
          clear hv ka kaf A25 Z25 B25 e25 v25 x25 g25
          refine wtk (i := 8) (oi := oCopN16) (v := ?_) rfl (Or.inl ⟨by rfl, ?_⟩) (by assumption) ?_
          rotate_left 1
          · (intro w' hSw; (try dsimp only at hSw); go_simp; try with_reducible rfl)
          try simp only [Act.put, qqA, qqB, qqC]
          refine wpAnyH_ready (rs := [9]) (by kernel_rfl) (by simp) ?_
          refine AllReadyH.cons (o := oCopN17) rfl (fun K hK => ?_) AllReadyH.nil
          have ka := (unhide A26).S
          have kaf := (unhide A26).F
          obtain ⟨u27, hv⟩ : ∃ w9, w9 = u26.setCell ⟨w.heap.size, 12, none⟩ (.slice gA ng gC) := ⟨_, rfl⟩
          have A27 : Hid (BF w.heap.size #[.int .i64 id, .int .i64 nd, .int .i64 tm, .int .i64 vt, .int .i64 ro, .bool up, .slice eA n eC, .int .i64 cm, .int .i64 el, .int .i64 wt, .slice vA nv vC, .slice xA nx xC, .slice gA ng gC] u27) := by rw [hv]; exact (unhide A26).set 12 (by simp) _
          have Z27 : Hid (BF (w.heap.size + 1) #[.int .i64 0, .int .i64 0, .int .i64 0, .int .i64 0, .int .i64 0, .bool false, .slice none 0 0, .int .i64 0, .int .i64 0, .int .i64 0, .slice none 0 0, .slice none 0 0, .slice none 0 0] u27) := by rw [hv]; exact (unhide Z26).far ⟨w.heap.size, 12, none⟩ _ (by show w.heap.size ≠ w.heap.size + 1; omega)
          have B27 : Hid (Below w.heap.size w u27) := by rw [hv]; exact Below.setCell (unhide B26) (by exact Nat.le_refl _) _
          have e27 : Hid (HeldZ 2 u27 loe hie 68 (.slice eA n eC) n (cE l)) := by rw [hv]; exact HeldZ.setC (unhide e26) (by show w.heap.size < loe; have := unhide oe; omega) _
          have v27 : Hid (Held u27 lov hiv 3 (.slice vA nv vC) nv (cI lv)) := by rw [hv]; exact Held.setC (unhide v26) (by show w.heap.size < lov; have := unhide ov; omega) _
          have x27 : Hid (Held u27 lox hix 3 (.slice xA nx xC) nx (cI lx)) := by rw [hv]; exact Held.setC (unhide x26) (by show w.heap.size < lox; have := unhide ox; omega) _
          have g27 : Hid (Held u27 log hig 3 (.slice gA ng gC) ng (cI lg)) := by rw [hv]; exact Held.setC (unhide g26) (by show w.heap.size < log; have := unhide og; omega) _
          go_simp
          rw [← hv]
          refine hK.out _ _ ?_ (fun hHeld9 => ?_)
          · trivial
          clear hK K
          try simp only [Act.put, qqA, qqB, qqC]
          clear hv ka kaf A26 Z26 B26 e26 v26 x26 g26
          refine wpAnyH_done (by kernel_rfl) ?_ _
          have ka := (unhide A27).S
          have kz := (unhide Z27).S
          have kzf := (unhide Z27).F
          go_wp2_with fail
          refine bodyPost_ret (v := .agg #[.int .i64 id, .int .i64 nd, .int .i64 tm, .int .i64 vt, .int .i64 ro, .bool up, .slice eA n eC, .int .i64 cm, .int .i64 el, .int .i64 wt, .slice vA nv vC, .slice xA nx xC, .slice gA ng gC]) (by simp [results, Try.results24, go_sem, kz]) rfl ⟨eA, eC, vA, vC, xA, xC, gA, gC, loe, hie, lov, hiv, lox, hix, log, hig, rfl, ?_, ?_, ?_, ?_, ⟨by have := unhide oe; omega, unhide oov, unhide oox, unhide oog⟩, ⟨unhide ole, unhide olv, unhide olx, unhide olg⟩, ?_⟩
          · iterate 13 refine HeldZ.setC ?_ (by show w.heap.size + 1 < loe; have := unhide oe; omega) _
            exact unhide e27
          · iterate 13 refine Held.setC ?_ (by show w.heap.size + 1 < lov; have := unhide ov; omega) _
            exact unhide v27
          · iterate 13 refine Held.setC ?_ (by show w.heap.size + 1 < lox; have := unhide ox; omega) _
            exact unhide x27
          · iterate 13 refine Held.setC ?_ (by show w.heap.size + 1 < log; have := unhide og; omega) _
            exact unhide g27
          · iterate 13 refine Below.setCell ?_ (by exact Nat.le_succ _) _
            exact unhide B27
        · skip
          have ka := (unhide A23).S
          go_simp
          refine hK.out _ _ ?_ (fun hHeld4 => ?_)
          · trivial
          clear hK K
          try simp only [Act.put, qqA, qqB, qqC]
          clear ka
          refine wpAnyH_ready (rs := [2]) (by kernel_rfl) (by simp) ?_
          refine AllReadyH.cons (o := oCopN12) rfl (fun K hK => ?_) AllReadyH.nil
          go_simp
          refine (jcloneA ax cx nx lx HNx hnx _ ((unhide HRx).below (unhide B23))).mono ?_
          rintro e u28 ⟨vv, rfl, ho, hb⟩
          obtain ⟨xA, xC, rfl, -⟩ := ownZ_rowV ho
          have A28 := hide ((unhide A23).below hb)
          have Z28 := hide ((unhide Z23).below hb)
          have B28 := hide ((unhide B23).trans (hb.mono (unhide B23).size))
          have e28 := hide ((unhide e23).below hb (unhide e23).le)
          have v28 := hide ((unhide v23).below hb (unhide v23).le)
          have x28 := hide (held_of ho)
          obtain ⟨lox, hlx⟩ : ∃ q, q = u1022.heap.size := ⟨_, rfl⟩
          obtain ⟨hix, hhx⟩ : ∃ q, q = u28.heap.size := ⟨_, rfl⟩
          have ox : Hid (w.heap.size + 2 ≤ lox) := by show _ ≤ _; rw [hlx]; have := (unhide Z23).lt; omega
          have olx : Hid (lox ≤ hix) := by show _ ≤ _; rw [hlx, hhx]; exact hb.size
          have oox : Hid (hiv ≤ lox) := by show _ ≤ _; rw [hlx]; exact (unhide v23).le
          rw [← hlx, ← hhx] at x28
          clear hb ho hlx hhx A23 Z23 B23 e23 v23
          go_wp2_with fail
          refine hK.out _ _ ?_ (fun hHeld2 => ?_)
          · trivial
          clear hK K
          try simp only [Act.put, qqA, qqB, qqC]
          refine wtk (i := 6) (oi := oCopN13) (v := ?_) rfl (Or.inl ⟨by rfl, ?_⟩) (by assumption) ?_
          rotate_left 1
          · (intro w' hSw; (try dsimp only at hSw); go_simp; try with_reducible rfl)
          try simp only [Act.put, qqA, qqB, qqC]
          refine wpAnyH_ready (rs := [5]) (by kernel_rfl) (by simp) ?_
          refine AllReadyH.cons (o := oCopN14) rfl (fun K hK => ?_) AllReadyH.nil
          go_simp
          refine (jcloneA ag cg ng lg HNg hng _ ((unhide HRg).below (unhide B28))).mono ?_
          rintro e u29 ⟨vv, rfl, ho, hb⟩
          obtain ⟨gA, gC, rfl, -⟩ := ownZ_rowV ho
          have A29 := hide ((unhide A28).below hb)
          have Z29 := hide ((unhide Z28).below hb)
          have B29 := hide ((unhide B28).trans (hb.mono (unhide B28).size))
          have e29 := hide ((unhide e28).below hb (unhide e28).le)
          have v29 := hide ((unhide v28).below hb (unhide v28).le)
          have x29 := hide ((unhide x28).below hb (unhide x28).le)
          have g29 := hide (held_of ho)
          obtain ⟨log, hlg⟩ : ∃ q, q = u28.heap.size := ⟨_, rfl⟩
          obtain ⟨hig, hhg⟩ : ∃ q, q = u29.heap.size := ⟨_, rfl⟩
          have og : Hid (w.heap.size + 2 ≤ log) := by show _ ≤ _; rw [hlg]; have := (unhide Z28).lt; omega
          have olg : Hid (log ≤ hig) := by show _ ≤ _; rw [hlg, hhg]; exact hb.size
          have oog : Hid (hix ≤ log) := by show _ ≤ _; rw [hlg]; exact (unhide x28).le
          rw [← hlg, ← hhg] at g29
          clear hb ho hlg hhg A28 Z28 B28 e28 v28 x28
          go_wp2_with fail
          refine hK.out _ _ ?_ (fun hHeld5 => ?_)
          · trivial
          clear hK K
          try simp only [Act.put, qqA, qqB, qqC]
          refine wpAnyH_ready (rs := [7]) (by kernel_rfl) (by simp) ?_
          refine AllReadyH.cons (o := oCopN15) rfl (fun K hK => ?_) AllReadyH.nil
          have ka := (unhide A29).S
          have kaf := (unhide A29).F
          obtain ⟨u30, hv⟩ : ∃ w9, w9 = u29.setCell ⟨w.heap.size, 11, none⟩ (.slice xA nx xC) := ⟨_, rfl⟩
          have A30 : Hid (BF w.heap.size #[.int .i64 id, .int .i64 nd, .int .i64 tm, .int .i64 vt, .int .i64 ro, .bool up, .slice eA n eC, .int .i64 cm, .int .i64 el, .int .i64 wt, .slice vA nv vC, .slice xA nx xC, .slice ag ng cg] u30) := by rw [hv]; exact (unhide A29).set 11 (by simp) _
          have Z30 : Hid (BF (w.heap.size + 1) #[.int .i64 0, .int .i64 0, .int .i64 0, .int .i64 0, .int .i64 0, .bool false, .slice none 0 0, .int .i64 0, .int .i64 0, .int .i64 0, .slice none 0 0, .slice none 0 0, .slice none 0 0] u30) := by rw [hv]; exact (unhide Z29).far ⟨w.heap.size, 11, none⟩ _ (by show w.heap.size ≠ w.heap.size + 1; omega)
          have B30 : Hid (Below w.heap.size w u30) := by rw [hv]; exact Below.setCell (unhide B29) (by exact Nat.le_refl _) _
          have e30 : Hid (HeldZ 2 u30 loe hie 68 (.slice eA n eC) n (cE l)) := by rw [hv]; exact HeldZ.setC (unhide e29) (by show w.heap.size < loe; have := unhide oe; omega) _
          have v30 : Hid (Held u30 lov hiv 3 (.slice vA nv vC) nv (cI lv)) := by rw [hv]; exact Held.setC (unhide v29) (by show w.heap.size < lov; have := unhide ov; omega) _
          have x30 : Hid (Held u30 lox hix 3 (.slice xA nx xC) nx (cI lx)) := by rw [hv]; exact Held.setC (unhide x29) (by show w.heap.size < lox; have := unhide ox; omega) _
          have g30 : Hid (Held u30 log hig 3 (.slice gA ng gC) ng (cI lg)) := by rw [hv]; exact Held.setC (unhide g29) (by show w.heap.size < log; have := unhide og; omega) _
          go_simp
          rw [← hv]
          refine hK.out _ _ ?_ (fun hHeld7 => ?_)
          · trivial
          clear hK K
          try simp only [Act.put, qqA, qqB, qqC]
          clear hv ka kaf A29 Z29 B29 e29 v29 x29 g29
          refine wtk (i := 8) (oi := oCopN16) (v := ?_) rfl (Or.inl ⟨by rfl, ?_⟩) (by assumption) ?_
          rotate_left 1
          · (intro w' hSw; (try dsimp only at hSw); go_simp; try with_reducible rfl)
          try simp only [Act.put, qqA, qqB, qqC]
          refine wpAnyH_ready (rs := [9]) (by kernel_rfl) (by simp) ?_
          refine AllReadyH.cons (o := oCopN17) rfl (fun K hK => ?_) AllReadyH.nil
          have ka := (unhide A30).S
          have kaf := (unhide A30).F
          obtain ⟨u31, hv⟩ : ∃ w9, w9 = u30.setCell ⟨w.heap.size, 12, none⟩ (.slice gA ng gC) := ⟨_, rfl⟩
          have A31 : Hid (BF w.heap.size #[.int .i64 id, .int .i64 nd, .int .i64 tm, .int .i64 vt, .int .i64 ro, .bool up, .slice eA n eC, .int .i64 cm, .int .i64 el, .int .i64 wt, .slice vA nv vC, .slice xA nx xC, .slice gA ng gC] u31) := by rw [hv]; exact (unhide A30).set 12 (by simp) _
          have Z31 : Hid (BF (w.heap.size + 1) #[.int .i64 0, .int .i64 0, .int .i64 0, .int .i64 0, .int .i64 0, .bool false, .slice none 0 0, .int .i64 0, .int .i64 0, .int .i64 0, .slice none 0 0, .slice none 0 0, .slice none 0 0] u31) := by rw [hv]; exact (unhide Z30).far ⟨w.heap.size, 12, none⟩ _ (by show w.heap.size ≠ w.heap.size + 1; omega)
          have B31 : Hid (Below w.heap.size w u31) := by rw [hv]; exact Below.setCell (unhide B30) (by exact Nat.le_refl _) _
          have e31 : Hid (HeldZ 2 u31 loe hie 68 (.slice eA n eC) n (cE l)) := by rw [hv]; exact HeldZ.setC (unhide e30) (by show w.heap.size < loe; have := unhide oe; omega) _
          have v31 : Hid (Held u31 lov hiv 3 (.slice vA nv vC) nv (cI lv)) := by rw [hv]; exact Held.setC (unhide v30) (by show w.heap.size < lov; have := unhide ov; omega) _
          have x31 : Hid (Held u31 lox hix 3 (.slice xA nx xC) nx (cI lx)) := by rw [hv]; exact Held.setC (unhide x30) (by show w.heap.size < lox; have := unhide ox; omega) _
          have g31 : Hid (Held u31 log hig 3 (.slice gA ng gC) ng (cI lg)) := by rw [hv]; exact Held.setC (unhide g30) (by show w.heap.size < log; have := unhide og; omega) _
          go_simp
          rw [← hv]
          refine hK.out _ _ ?_ (fun hHeld9 => ?_)
          · trivial
          clear hK K
          try simp only [Act.put, qqA, qqB, qqC]
          clear hv ka kaf A30 Z30 B30 e30 v30 x30 g30
          refine wpAnyH_done (by kernel_rfl) ?_ _
          have ka := (unhide A31).S
          have kz := (unhide Z31).S
          have kzf := (unhide Z31).F
          go_wp2_with fail
          refine bodyPost_ret (v := .agg #[.int .i64 id, .int .i64 nd, .int .i64 tm, .int .i64 vt, .int .i64 ro, .bool up, .slice eA n eC, .int .i64 cm, .int .i64 el, .int .i64 wt, .slice vA nv vC, .slice xA nx xC, .slice gA ng gC]) (by simp [results, Try.results24, go_sem, kz]) rfl ⟨eA, eC, vA, vC, xA, xC, gA, gC, loe, hie, lov, hiv, lox, hix, log, hig, rfl, ?_, ?_, ?_, ?_, ⟨by have := unhide oe; omega, unhide oov, unhide oox, unhide oog⟩, ⟨unhide ole, unhide olv, unhide olx, unhide olg⟩, ?_⟩
          · iterate 13 refine HeldZ.setC ?_ (by show w.heap.size + 1 < loe; have := unhide oe; omega) _
            exact unhide e31
          · iterate 13 refine Held.setC ?_ (by show w.heap.size + 1 < lov; have := unhide ov; omega) _
            exact unhide v31
          · iterate 13 refine Held.setC ?_ (by show w.heap.size + 1 < lox; have := unhide ox; omega) _
            exact unhide x31
          · iterate 13 refine Held.setC ?_ (by show w.heap.size + 1 < log; have := unhide og; omega) _
            exact unhide g31
          · iterate 13 refine Below.setCell ?_ (by exact Nat.le_succ _) _
            exact unhide B31
      · skip
        have ka := (unhide A23).S
        go_simp
        refine hK.out _ _ ?_ (fun hHeld4 => ?_)
        · trivial
        clear hK K
        try simp only [Act.put, qqA, qqB, qqC]
        clear ka
        refine wpAnyH_ready (rs := [1]) (by kernel_rfl) (by simp) ?_
        refine AllReadyH.cons (o := oCopN10) rfl (fun K hK => ?_) AllReadyH.nil
        have ka := (unhide A23).S
        go_simp
        refine hK.out _ _ ?_ (fun hHeld1 => ?_)
        · trivial
        clear hK K
        try simp only [Act.put, qqA, qqB, qqC]
        clear ka
        refine wpAnyH_ready (rs := [2]) (by kernel_rfl) (by simp) ?_
        refine AllReadyH.cons (o := oCopN12) rfl (fun K hK => ?_) AllReadyH.nil
        go_simp
        refine (jcloneA ax cx nx lx HNx hnx _ ((unhide HRx).below (unhide B23))).mono ?_
        rintro e u32 ⟨vv, rfl, ho, hb⟩
        obtain ⟨xA, xC, rfl, -⟩ := ownZ_rowV ho
        have A32 := hide ((unhide A23).below hb)
        have Z32 := hide ((unhide Z23).below hb)
        have B32 := hide ((unhide B23).trans (hb.mono (unhide B23).size))
        have e32 := hide ((unhide e23).below hb (unhide e23).le)
        have v32 := hide ((unhide v23).below hb (unhide v23).le)
        have x32 := hide (held_of ho)
        obtain ⟨lox, hlx⟩ : ∃ q, q = u1022.heap.size := ⟨_, rfl⟩
        obtain ⟨hix, hhx⟩ : ∃ q, q = u32.heap.size := ⟨_, rfl⟩
        have ox : Hid (w.heap.size + 2 ≤ lox) := by show _ ≤ _; rw [hlx]; have := (unhide Z23).lt; omega
        have olx : Hid (lox ≤ hix) := by show _ ≤ _; rw [hlx, hhx]; exact hb.size
        have oox : Hid (hiv ≤ lox) := by show _ ≤ _; rw [hlx]; exact (unhide v23).le
        rw [← hlx, ← hhx] at x32
        clear hb ho hlx hhx A23 Z23 B23 e23 v23
        go_wp2_with fail
        refine hK.out _ _ ?_ (fun hHeld2 => ?_)
        · trivial
        clear hK K
        try simp only [Act.put, qqA, qqB, qqC]
        refine wtk (i := 6) (oi := oCopN13) (v := ?_) rfl (Or.inl ⟨by rfl, ?_⟩) (by assumption) ?_
        rotate_left 1
        · (intro w' hSw; (try dsimp only at hSw); go_simp; try with_reducible rfl)
        try simp only [Act.put, qqA, qqB, qqC]
        refine wpAnyH_ready (rs := [5]) (by kernel_rfl) (by simp) ?_
        refine AllReadyH.cons (o := oCopN14) rfl (fun K hK => ?_) AllReadyH.nil
        go_simp
        refine (jcloneA ag cg ng lg HNg hng _ ((unhide HRg).below (unhide B32))).mono ?_
        rintro e u33 ⟨vv, rfl, ho, hb⟩
        obtain ⟨gA, gC, rfl, -⟩ := ownZ_rowV ho
        have A33 := hide ((unhide A32).below hb)
        have Z33 := hide ((unhide Z32).below hb)
        have B33 := hide ((unhide B32).trans (hb.mono (unhide B32).size))
        have e33 := hide ((unhide e32).below hb (unhide e32).le)
        have v33 := hide ((unhide v32).below hb (unhide v32).le)
        have x33 := hide ((unhide x32).below hb (unhide x32).le)
        have g33 := hide (held_of ho)
        obtain ⟨log, hlg⟩ : ∃ q, q = u32.heap.size := ⟨_, rfl⟩
        obtain ⟨hig, hhg⟩ : ∃ q, q = u33.heap.size := ⟨_, rfl⟩
        have og : Hid (w.heap.size + 2 ≤ log) := by show _ ≤ _; rw [hlg]; have := (unhide Z32).lt; omega
        have olg : Hid (log ≤ hig) := by show _ ≤ _; rw [hlg, hhg]; exact hb.size
        have oog : Hid (hix ≤ log) := by show _ ≤ _; rw [hlg]; exact (unhide x32).le
        rw [← hlg, ← hhg] at g33
        clear hb ho hlg hhg A32 Z32 B32 e32 v32 x32
        go_wp2_with fail
        refine hK.out _ _ ?_ (fun hHeld5 => ?_)
        · trivial
        clear hK K
        try simp only [Act.put, qqA, qqB, qqC]
        refine wpAnyH_ready (rs := [7]) (by kernel_rfl) (by simp) ?_
        refine AllReadyH.cons (o := oCopN15) rfl (fun K hK => ?_) AllReadyH.nil
        have ka := (unhide A33).S
        have kaf := (unhide A33).F
        obtain ⟨u34, hv⟩ : ∃ w9, w9 = u33.setCell ⟨w.heap.size, 11, none⟩ (.slice xA nx xC) := ⟨_, rfl⟩
        have A34 : Hid (BF w.heap.size #[.int .i64 id, .int .i64 nd, .int .i64 tm, .int .i64 vt, .int .i64 ro, .bool up, .slice eA n eC, .int .i64 cm, .int .i64 el, .int .i64 wt, .slice vA nv vC, .slice xA nx xC, .slice ag ng cg] u34) := by rw [hv]; exact (unhide A33).set 11 (by simp) _
        have Z34 : Hid (BF (w.heap.size + 1) #[.int .i64 0, .int .i64 0, .int .i64 0, .int .i64 0, .int .i64 0, .bool false, .slice none 0 0, .int .i64 0, .int .i64 0, .int .i64 0, .slice none 0 0, .slice none 0 0, .slice none 0 0] u34) := by rw [hv]; exact (unhide Z33).far ⟨w.heap.size, 11, none⟩ _ (by show w.heap.size ≠ w.heap.size + 1; omega)
        have B34 : Hid (Below w.heap.size w u34) := by rw [hv]; exact Below.setCell (unhide B33) (by exact Nat.le_refl _) _
        have e34 : Hid (HeldZ 2 u34 loe hie 68 (.slice eA n eC) n (cE l)) := by rw [hv]; exact HeldZ.setC (unhide e33) (by show w.heap.size < loe; have := unhide oe; omega) _
        have v34 : Hid (Held u34 lov hiv 3 (.slice vA nv vC) nv (cI lv)) := by rw [hv]; exact Held.setC (unhide v33) (by show w.heap.size < lov; have := unhide ov; omega) _
        have x34 : Hid (Held u34 lox hix 3 (.slice xA nx xC) nx (cI lx)) := by rw [hv]; exact Held.setC (unhide x33) (by show w.heap.size < lox; have := unhide ox; omega) _
        have g34 : Hid (Held u34 log hig 3 (.slice gA ng gC) ng (cI lg)) := by rw [hv]; exact Held.setC (unhide g33) (by show w.heap.size < log; have := unhide og; omega) _
        go_simp
        rw [← hv]
        refine hK.out _ _ ?_ (fun hHeld7 => ?_)
        · trivial
        clear hK K
        try simp only [Act.put, qqA, qqB, qqC]
        clear hv ka kaf A33 Z33 B33 e33 v33 x33 g33
        refine wtk (i := 8) (oi := oCopN16) (v := ?_) rfl (Or.inl ⟨by rfl, ?_⟩) (by assumption) ?_
        rotate_left 1
        · (intro w' hSw; (try dsimp only at hSw); go_simp; try with_reducible rfl)
        try simp only [Act.put, qqA, qqB, qqC]
        refine wpAnyH_ready (rs := [9]) (by kernel_rfl) (by simp) ?_
        refine AllReadyH.cons (o := oCopN17) rfl (fun K hK => ?_) AllReadyH.nil
        have ka := (unhide A34).S
        have kaf := (unhide A34).F
        obtain ⟨u35, hv⟩ : ∃ w9, w9 = u34.setCell ⟨w.heap.size, 12, none⟩ (.slice gA ng gC) := ⟨_, rfl⟩
        have A35 : Hid (BF w.heap.size #[.int .i64 id, .int .i64 nd, .int .i64 tm, .int .i64 vt, .int .i64 ro, .bool up, .slice eA n eC, .int .i64 cm, .int .i64 el, .int .i64 wt, .slice vA nv vC, .slice xA nx xC, .slice gA ng gC] u35) := by rw [hv]; exact (unhide A34).set 12 (by simp) _
        have Z35 : Hid (BF (w.heap.size + 1) #[.int .i64 0, .int .i64 0, .int .i64 0, .int .i64 0, .int .i64 0, .bool false, .slice none 0 0, .int .i64 0, .int .i64 0, .int .i64 0, .slice none 0 0, .slice none 0 0, .slice none 0 0] u35) := by rw [hv]; exact (unhide Z34).far ⟨w.heap.size, 12, none⟩ _ (by show w.heap.size ≠ w.heap.size + 1; omega)
        have B35 : Hid (Below w.heap.size w u35) := by rw [hv]; exact Below.setCell (unhide B34) (by exact Nat.le_refl _) _
        have e35 : Hid (HeldZ 2 u35 loe hie 68 (.slice eA n eC) n (cE l)) := by rw [hv]; exact HeldZ.setC (unhide e34) (by show w.heap.size < loe; have := unhide oe; omega) _
        have v35 : Hid (Held u35 lov hiv 3 (.slice vA nv vC) nv (cI lv)) := by rw [hv]; exact Held.setC (unhide v34) (by show w.heap.size < lov; have := unhide ov; omega) _
        have x35 : Hid (Held u35 lox hix 3 (.slice xA nx xC) nx (cI lx)) := by rw [hv]; exact Held.setC (unhide x34) (by show w.heap.size < lox; have := unhide ox; omega) _
        have g35 : Hid (Held u35 log hig 3 (.slice gA ng gC) ng (cI lg)) := by rw [hv]; exact Held.setC (unhide g34) (by show w.heap.size < log; have := unhide og; omega) _
        go_simp
        rw [← hv]
        refine hK.out _ _ ?_ (fun hHeld9 => ?_)
        · trivial
        clear hK K
        try simp only [Act.put, qqA, qqB, qqC]
        clear hv ka kaf A34 Z34 B34 e34 v34 x34 g34
        refine wpAnyH_done (by kernel_rfl) ?_ _
        have ka := (unhide A35).S
        have kz := (unhide Z35).S
        have kzf := (unhide Z35).F
        go_wp2_with fail
        refine bodyPost_ret (v := .agg #[.int .i64 id, .int .i64 nd, .int .i64 tm, .int .i64 vt, .int .i64 ro, .bool up, .slice eA n eC, .int .i64 cm, .int .i64 el, .int .i64 wt, .slice vA nv vC, .slice xA nx xC, .slice gA ng gC]) (by simp [results, Try.results24, go_sem, kz]) rfl ⟨eA, eC, vA, vC, xA, xC, gA, gC, loe, hie, lov, hiv, lox, hix, log, hig, rfl, ?_, ?_, ?_, ?_, ⟨by have := unhide oe; omega, unhide oov, unhide oox, unhide oog⟩, ⟨unhide ole, unhide olv, unhide olx, unhide olg⟩, ?_⟩
        · iterate 13 refine HeldZ.setC ?_ (by show w.heap.size + 1 < loe; have := unhide oe; omega) _
          exact unhide e35
        · iterate 13 refine Held.setC ?_ (by show w.heap.size + 1 < lov; have := unhide ov; omega) _
          exact unhide v35
        · iterate 13 refine Held.setC ?_ (by show w.heap.size + 1 < lox; have := unhide ox; omega) _
          exact unhide x35
        · iterate 13 refine Held.setC ?_ (by show w.heap.size + 1 < log; have := unhide og; omega) _
          exact unhide g35
        · iterate 13 refine Below.setCell ?_ (by exact Nat.le_succ _) _
          exact unhide B35
  · skip
    have ka := (unhide A1).S
    go_simp
    refine hK.out _ _ ?_ (fun hHeld4 => ?_)
    · trivial
    clear hK K
    try simp only [Act.put, qqA, qqB, qqC]
    clear ka
    refine wpAnyH_ready (rs := [1]) (by kernel_rfl) (by simp) ?_
    refine AllReadyH.cons (o := oCopN0) rfl (fun K hK => ?_) AllReadyH.nil
    have ka := (unhide A1).S
    go_simp
    refine hK.out _ _ ?_ (fun hHeld1 => ?_)
    · trivial
    clear hK K
    try simp only [Act.put, qqA, qqB, qqC]
    clear ka
    refine wpAnyH_ready (rs := [2]) (by kernel_rfl) (by simp) ?_
    refine AllReadyH.cons (o := oCopN2) rfl (fun K hK => ?_) AllReadyH.nil
    go_simp
    refine (icloneA a cap n l HN hn _ ((unhide HRe).below (unhide B1))).mono ?_
    rintro e u36 ⟨vv, rfl, ho, hb⟩
    obtain ⟨eA, eC, rfl, -⟩ := ownZ_rowV ho
    have A36 := hide ((unhide A1).below hb)
    have Z36 := hide ((unhide Z1).below hb)
    have B36 := hide ((unhide B1).trans (hb.mono (unhide B1).size))
    have e36 := hide (heldZ_of ho)
    obtain ⟨loe, hle⟩ : ∃ q, q = u1000.heap.size := ⟨_, rfl⟩
    obtain ⟨hie, hhe⟩ : ∃ q, q = u36.heap.size := ⟨_, rfl⟩
    have oe : Hid (w.heap.size + 2 ≤ loe) := by show _ ≤ _; rw [hle]; have := (unhide Z1).lt; omega
    have ole : Hid (loe ≤ hie) := by show _ ≤ _; rw [hle, hhe]; exact hb.size
    rw [← hle, ← hhe] at e36
    clear hb ho hle hhe A1 Z1 B1 
    go_wp2_with fail
    refine hK.out _ _ ?_ (fun hHeld2 => ?_)
    · trivial
    clear hK K
    try simp only [Act.put, qqA, qqB, qqC]
    refine wtk (i := 6) (oi := oCopN3) (v := ?_) rfl (Or.inl ⟨by rfl, ?_⟩) (by assumption) ?_
    rotate_left 1
    · (intro w' hSw; (try dsimp only at hSw); go_simp; try with_reducible rfl)
    try simp only [Act.put, qqA, qqB, qqC]
    refine wpAnyH_ready (rs := [5]) (by kernel_rfl) (by simp) ?_
    refine AllReadyH.cons (o := oCopN4) rfl (fun K hK => ?_) AllReadyH.nil
    go_simp
    refine (jcloneA av cv nv lv HNv hnv _ ((unhide HRv).below (unhide B36))).mono ?_
    rintro e u37 ⟨vv, rfl, ho, hb⟩
    obtain ⟨vA, vC, rfl, -⟩ := ownZ_rowV ho
    have A37 := hide ((unhide A36).below hb)
    have Z37 := hide ((unhide Z36).below hb)
    have B37 := hide ((unhide B36).trans (hb.mono (unhide B36).size))
    have e37 := hide ((unhide e36).below hb (unhide e36).le)
    have v37 := hide (held_of ho)
    obtain ⟨lov, hlv⟩ : ∃ q, q = u36.heap.size := ⟨_, rfl⟩
    obtain ⟨hiv, hhv⟩ : ∃ q, q = u37.heap.size := ⟨_, rfl⟩
    have ov : Hid (w.heap.size + 2 ≤ lov) := by show _ ≤ _; rw [hlv]; have := (unhide Z36).lt; omega
    have olv : Hid (lov ≤ hiv) := by show _ ≤ _; rw [hlv, hhv]; exact hb.size
    have oov : Hid (hie ≤ lov) := by show _ ≤ _; rw [hlv]; exact (unhide e36).le
    rw [← hlv, ← hhv] at v37
    clear hb ho hlv hhv A36 Z36 B36 e36
    go_wp2_with fail
    refine hK.out _ _ ?_ (fun hHeld5 => ?_)
    · trivial
    clear hK K
    try simp only [Act.put, qqA, qqB, qqC]
    refine wpAnyH_ready (rs := [7]) (by kernel_rfl) (by simp) ?_
    refine AllReadyH.cons (o := oCopN5) rfl (fun K hK => ?_) AllReadyH.nil
    have ka := (unhide A37).S
    have kaf := (unhide A37).F
    obtain ⟨u38, hv⟩ : ∃ w9, w9 = u37.setCell ⟨w.heap.size, 6, none⟩ (.slice eA n eC) := ⟨_, rfl⟩
    have A38 : Hid (BF w.heap.size #[.int .i64 id, .int .i64 nd, .int .i64 tm, .int .i64 vt, .int .i64 ro, .bool up, .slice eA n eC, .int .i64 cm, .int .i64 el, .int .i64 wt, .slice av nv cv, .slice ax nx cx, .slice ag ng cg] u38) := by rw [hv]; exact (unhide A37).set 6 (by simp) _
    have Z38 : Hid (BF (w.heap.size + 1) #[.int .i64 0, .int .i64 0, .int .i64 0, .int .i64 0, .int .i64 0, .bool false, .slice none 0 0, .int .i64 0, .int .i64 0, .int .i64 0, .slice none 0 0, .slice none 0 0, .slice none 0 0] u38) := by rw [hv]; exact (unhide Z37).far ⟨w.heap.size, 6, none⟩ _ (by show w.heap.size ≠ w.heap.size + 1; omega)
    have B38 : Hid (Below w.heap.size w u38) := by rw [hv]; exact Below.setCell (unhide B37) (by exact Nat.le_refl _) _
    have e38 : Hid (HeldZ 2 u38 loe hie 68 (.slice eA n eC) n (cE l)) := by rw [hv]; exact HeldZ.setC (unhide e37) (by show w.heap.size < loe; have := unhide oe; omega) _
    have v38 : Hid (Held u38 lov hiv 3 (.slice vA nv vC) nv (cI lv)) := by rw [hv]; exact Held.setC (unhide v37) (by show w.heap.size < lov; have := unhide ov; omega) _
    go_simp
    rw [← hv]
    refine hK.out _ _ ?_ (fun hHeld7 => ?_)
    · trivial
    clear hK K
    try simp only [Act.put, qqA, qqB, qqC]
    clear hv ka kaf A37 Z37 B37 e37 v37
    refine wtk (i := 8) (oi := oCopN6) (v := ?_) rfl (Or.inl ⟨by rfl, ?_⟩) (by assumption) ?_
    rotate_left 1
    · (intro w' hSw; (try dsimp only at hSw); go_simp; try with_reducible rfl)
    try simp only [Act.put, qqA, qqB, qqC]
    refine wpAnyH_ready (rs := [9]) (by kernel_rfl) (by simp) ?_
    refine AllReadyH.cons (o := oCopN7) rfl (fun K hK => ?_) AllReadyH.nil
    have ka := (unhide A38).S
    have kaf := (unhide A38).F
    obtain ⟨u39, hv⟩ : ∃ w9, w9 = u38.setCell ⟨w.heap.size, 10, none⟩ (.slice vA nv vC) := ⟨_, rfl⟩
    have A39 : Hid (BF w.heap.size #[.int .i64 id, .int .i64 nd, .int .i64 tm, .int .i64 vt, .int .i64 ro, .bool up, .slice eA n eC, .int .i64 cm, .int .i64 el, .int .i64 wt, .slice vA nv vC, .slice ax nx cx, .slice ag ng cg] u39) := by rw [hv]; exact (unhide A38).set 10 (by simp) _
    have Z39 : Hid (BF (w.heap.size + 1) #[.int .i64 0, .int .i64 0, .int .i64 0, .int .i64 0, .int .i64 0, .bool false, .slice none 0 0, .int .i64 0, .int .i64 0, .int .i64 0, .slice none 0 0, .slice none 0 0, .slice none 0 0] u39) := by rw [hv]; exact (unhide Z38).far ⟨w.heap.size, 10, none⟩ _ (by show w.heap.size ≠ w.heap.size + 1; omega)
    have B39 : Hid (Below w.heap.size w u39) := by rw [hv]; exact Below.setCell (unhide B38) (by exact Nat.le_refl _) _
    have e39 : Hid (HeldZ 2 u39 loe hie 68 (.slice eA n eC) n (cE l)) := by rw [hv]; exact HeldZ.setC (unhide e38) (by show w.heap.size < loe; have := unhide oe; omega) _
    have v39 : Hid (Held u39 lov hiv 3 (.slice vA nv vC) nv (cI lv)) := by rw [hv]; exact Held.setC (unhide v38) (by show w.heap.size < lov; have := unhide ov; omega) _
    go_simp
    rw [← hv]
    refine hK.out _ _ ?_ (fun hHeld9 => ?_)
    · trivial
    clear hK K
    try simp only [Act.put, qqA, qqB, qqC]
    clear hv ka kaf A38 Z38 B38 e38 v38
    refine wpAnyH_done (by kernel_rfl) ?_ _
    have AD := hide (unhide A39).drew
    have ZD := hide (unhide Z39).drew
    have BD := hide (unhide B39).drew
    have eD := hide ((unhide e39).below (Below.refl _ _).drew (unhide e39).le)
    have vD := hide ((unhide v39).below (Below.refl _ _).drew (unhide v39).le)
    clear A39 Z39 B39 e39 v39
    go_wp2_with fail
    refine wp_region_held_drew (S := fun w' => True) (by kernel_rfl) trivial (fun hHeld => ?_)
    generalize u39.drew = u1039 at AD ZD BD eD vD hHeld ⊢
    refine wtk (i := 0) (oi := oCopN8) (v := ?_) rfl (Or.inl ⟨by rfl, ?_⟩) (by assumption) ?_
    rotate_left 1
    · (intro w' hSw; (try dsimp only at hSw); go_simp; try with_reducible rfl)
    try simp only [Act.put, qqA, qqB, qqC]
    refine wtk (i := 3) (oi := oCopN9) (v := ?_) rfl (Or.inl ⟨by rfl, ?_⟩) (by assumption) ?_
    rotate_left 1
    · (intro w' hSw; (try dsimp only at hSw); go_simp; try with_reducible rfl)
    try simp only [Act.put, qqA, qqB, qqC]
    have A40 := AD
    have Z40 := ZD
    have B40 := BD
    have e40 := eD
    have v40 := vD
    clear AD ZD BD eD vD
    refine wpAnyH_ready (rs := [1, 4]) (by kernel_rfl) (by simp) ?_
    refine AllReadyH.cons (o := oCopN10) rfl (fun K hK => ?_) (AllReadyH.cons (o := oCopN11) rfl (fun K hK => ?_) AllReadyH.nil)
    · skip
      have ka := (unhide A40).S
      go_simp
      refine hK.out _ _ ?_ (fun hHeld1 => ?_)
      · trivial
      clear hK K
      try simp only [Act.put, qqA, qqB, qqC]
      clear ka
      refine wpAnyH_ready (rs := [2, 4]) (by kernel_rfl) (by simp) ?_
      refine AllReadyH.cons (o := oCopN12) rfl (fun K hK => ?_) (AllReadyH.cons (o := oCopN11) rfl (fun K hK => ?_) AllReadyH.nil)
      · skip
        go_simp
        refine (jcloneA ax cx nx lx HNx hnx _ ((unhide HRx).below (unhide B40))).mono ?_
        rintro e u41 ⟨vv, rfl, ho, hb⟩
        obtain ⟨xA, xC, rfl, -⟩ := ownZ_rowV ho
        have A41 := hide ((unhide A40).below hb)
        have Z41 := hide ((unhide Z40).below hb)
        have B41 := hide ((unhide B40).trans (hb.mono (unhide B40).size))
        have e41 := hide ((unhide e40).below hb (unhide e40).le)
        have v41 := hide ((unhide v40).below hb (unhide v40).le)
        have x41 := hide (held_of ho)
        obtain ⟨lox, hlx⟩ : ∃ q, q = u1039.heap.size := ⟨_, rfl⟩
        obtain ⟨hix, hhx⟩ : ∃ q, q = u41.heap.size := ⟨_, rfl⟩
        have ox : Hid (w.heap.size + 2 ≤ lox) := by show _ ≤ _; rw [hlx]; have := (unhide Z40).lt; omega
        have olx : Hid (lox ≤ hix) := by show _ ≤ _; rw [hlx, hhx]; exact hb.size
        have oox : Hid (hiv ≤ lox) := by show _ ≤ _; rw [hlx]; exact (unhide v40).le
        rw [← hlx, ← hhx] at x41
        clear hb ho hlx hhx A40 Z40 B40 e40 v40
        go_wp2_with fail
        refine hK.out _ _ ?_ (fun hHeld2 => ?_)
        · trivial
        clear hK K
        try simp only [Act.put, qqA, qqB, qqC]
        refine wpAnyH_ready (rs := [4]) (by kernel_rfl) (by simp) ?_
        refine AllReadyH.cons (o := oCopN11) rfl (fun K hK => ?_) AllReadyH.nil
        have ka := (unhide A41).S
        go_simp
        refine hK.out _ _ ?_ (fun hHeld4 => ?_)
        · trivial
        clear hK K
        try simp only [Act.put, qqA, qqB, qqC]
        clear ka
        refine wtk (i := 6) (oi := oCopN13) (v := ?_) rfl (Or.inl ⟨by rfl, ?_⟩) (by assumption) ?_
        rotate_left 1
        · (intro w' hSw; (try dsimp only at hSw); go_simp; try with_reducible rfl)
        try simp only [Act.put, qqA, qqB, qqC]
        refine wpAnyH_ready (rs := [5]) (by kernel_rfl) (by simp) ?_
        refine AllReadyH.cons (o := oCopN14) rfl (fun K hK => ?_) AllReadyH.nil
        go_simp
        refine (jcloneA ag cg ng lg HNg hng _ ((unhide HRg).below (unhide B41))).mono ?_
        rintro e u42 ⟨vv, rfl, ho, hb⟩
        obtain ⟨gA, gC, rfl, -⟩ := ownZ_rowV ho
        have A42 := hide ((unhide A41).below hb)
        have Z42 := hide ((unhide Z41).below hb)
        have B42 := hide ((unhide B41).trans (hb.mono (unhide B41).size))
        have e42 := hide ((unhide e41).below hb (unhide e41).le)
        have v42 := hide ((unhide v41).below hb (unhide v41).le)
        have x42 := hide ((unhide x41).below hb (unhide x41).le)
        have g42 := hide (held_of ho)
        obtain ⟨log, hlg⟩ : ∃ q, q = u41.heap.size := ⟨_, rfl⟩
        obtain ⟨hig, hhg⟩ : ∃ q, q = u42.heap.size := ⟨_, rfl⟩
        have og : Hid (w.heap.size + 2 ≤ log) := by show _ ≤ _; rw [hlg]; have := (unhide Z41).lt; omega
        have olg : Hid (log ≤ hig) := by show _ ≤ _; rw [hlg, hhg]; exact hb.size
        have oog : Hid (hix ≤ log) := by show _ ≤ _; rw [hlg]; exact (unhide x41).le
        rw [← hlg, ← hhg] at g42
        clear hb ho hlg hhg A41 Z41 B41 e41 v41 x41
        go_wp2_with fail
        refine hK.out _ _ ?_ (fun hHeld5 => ?_)
        · trivial
        clear hK K
        try simp only [Act.put, qqA, qqB, qqC]
        refine wpAnyH_ready (rs := [7]) (by kernel_rfl) (by simp) ?_
        refine AllReadyH.cons (o := oCopN15) rfl (fun K hK => ?_) AllReadyH.nil
        have ka := (unhide A42).S
        have kaf := (unhide A42).F
        obtain ⟨u43, hv⟩ : ∃ w9, w9 = u42.setCell ⟨w.heap.size, 11, none⟩ (.slice xA nx xC) := ⟨_, rfl⟩
        have A43 : Hid (BF w.heap.size #[.int .i64 id, .int .i64 nd, .int .i64 tm, .int .i64 vt, .int .i64 ro, .bool up, .slice eA n eC, .int .i64 cm, .int .i64 el, .int .i64 wt, .slice vA nv vC, .slice xA nx xC, .slice ag ng cg] u43) := by rw [hv]; exact (unhide A42).set 11 (by simp) _
        have Z43 : Hid (BF (w.heap.size + 1) #[.int .i64 0, .int .i64 0, .int .i64 0, .int .i64 0, .int .i64 0, .bool false, .slice none 0 0, .int .i64 0, .int .i64 0, .int .i64 0, .slice none 0 0, .slice none 0 0, .slice none 0 0] u43) := by rw [hv]; exact (unhide Z42).far ⟨w.heap.size, 11, none⟩ _ (by show w.heap.size ≠ w.heap.size + 1; omega)
        have B43 : Hid (Below w.heap.size w u43) := by rw [hv]; exact Below.setCell (unhide B42) (by exact Nat.le_refl _) _
        have e43 : Hid (HeldZ 2 u43 loe hie 68 (.slice eA n eC) n (cE l)) := by rw [hv]; exact HeldZ.setC (unhide e42) (by show w.heap.size < loe; have := unhide oe; omega) _
        have v43 : Hid (Held u43 lov hiv 3 (.slice vA nv vC) nv (cI lv)) := by rw [hv]; exact Held.setC (unhide v42) (by show w.heap.size < lov; have := unhide ov; omega) _
        have x43 : Hid (Held u43 lox hix 3 (.slice xA nx xC) nx (cI lx)) := by rw [hv]; exact Held.setC (unhide x42) (by show w.heap.size < lox; have := unhide ox; omega) _
        have g43 : Hid (Held u43 log hig 3 (.slice gA ng gC) ng (cI lg)) := by rw [hv]; exact Held.setC (unhide g42) (by show w.heap.size < log; have := unhide og; omega) _
        go_simp
        rw [← hv]
        refine hK.out _ _ ?_ (fun hHeld7 => ?_)
        · trivial
        clear hK K
        try simp only [Act.put, qqA, qqB, qqC]
        clear hv ka kaf A42 Z42 B42 e42 v42 x42 g42
        refine wtk (i := 8) (oi := oCopN16) (v := ?_) rfl (Or.inl ⟨by rfl, ?_⟩) (by assumption) ?_
        rotate_left 1
        · (intro w' hSw; (try dsimp only at hSw); go_simp; try with_reducible rfl)
        try simp only [Act.put, qqA, qqB, qqC]
        refine wpAnyH_ready (rs := [9]) (by kernel_rfl) (by simp) ?_
        refine AllReadyH.cons (o := oCopN17) rfl (fun K hK => ?_) AllReadyH.nil
        have ka := (unhide A43).S
        have kaf := (unhide A43).F
        obtain ⟨u44, hv⟩ : ∃ w9, w9 = u43.setCell ⟨w.heap.size, 12, none⟩ (.slice gA ng gC) := ⟨_, rfl⟩
        have A44 : Hid (BF w.heap.size #[.int .i64 id, .int .i64 nd, .int .i64 tm, .int .i64 vt, .int .i64 ro, .bool up, .slice eA n eC, .int .i64 cm, .int .i64 el, .int .i64 wt, .slice vA nv vC, .slice xA nx xC, .slice gA ng gC] u44) := by rw [hv]; exact (unhide A43).set 12 (by simp) _
        have Z44 : Hid (BF (w.heap.size + 1) #[.int .i64 0, .int .i64 0, .int .i64 0, .int .i64 0, .int .i64 0, .bool false, .slice none 0 0, .int .i64 0, .int .i64 0, .int .i64 0, .slice none 0 0, .slice none 0 0, .slice none 0 0] u44) := by rw [hv]; exact (unhide Z43).far ⟨w.heap.size, 12, none⟩ _ (by show w.heap.size ≠ w.heap.size + 1; omega)
        have B44 : Hid (Below w.heap.size w u44) := by rw [hv]; exact Below.setCell (unhide B43) (by exact Nat.le_refl _) _
        have e44 : Hid (HeldZ 2 u44 loe hie 68 (.slice eA n eC) n (cE l)) := by rw [hv]; exact HeldZ.setC (unhide e43) (by show w.heap.size < loe; have := unhide oe; omega) _
        have v44 : Hid (Held u44 lov hiv 3 (.slice vA nv vC) nv (cI lv)) := by rw [hv]; exact Held.setC (unhide v43) (by show w.heap.size < lov; have := unhide ov; omega) _
        have x44 : Hid (Held u44 lox hix 3 (.slice xA nx xC) nx (cI lx)) := by rw [hv]; exact Held.setC (unhide x43) (by show w.heap.size < lox; have := unhide ox; omega) _
        have g44 : Hid (Held u44 log hig 3 (.slice gA ng gC) ng (cI lg)) := by rw [hv]; exact Held.setC (unhide g43) (by show w.heap.size < log; have := unhide og; omega) _
        go_simp
        rw [← hv]
        refine hK.out _ _ ?_ (fun hHeld9 => ?_)
        · trivial
        clear hK K
        try simp only [Act.put, qqA, qqB, qqC]
        clear hv ka kaf A43 Z43 B43 e43 v43 x43 g43
        refine wpAnyH_done (by kernel_rfl) ?_ _
        have ka := (unhide A44).S
        have kz := (unhide Z44).S
        have kzf := (unhide Z44).F
        go_wp2_with fail
        refine bodyPost_ret (v := .agg #[.int .i64 id, .int .i64 nd, .int .i64 tm, .int .i64 vt, .int .i64 ro, .bool up, .slice eA n eC, .int .i64 cm, .int .i64 el, .int .i64 wt, .slice vA nv vC, .slice xA nx xC, .slice gA ng gC]) (by simp [results, Try.results24, go_sem, kz]) rfl ⟨eA, eC, vA, vC, xA, xC, gA, gC, loe, hie, lov, hiv, lox, hix, log, hig, rfl, ?_, ?_, ?_, ?_, ⟨by have := unhide oe; omega, unhide oov, unhide oox, unhide oog⟩, ⟨unhide ole, unhide olv, unhide olx, unhide olg⟩, ?_⟩
        · iterate 13 refine HeldZ.setC ?_ (by show w.heap.size + 1 < loe; have := unhide oe; omega) _
          exact unhide e44
        · iterate 13 refine Held.setC ?_ (by show w.heap.size + 1 < lov; have := unhide ov; omega) _
          exact unhide v44
        · iterate 13 refine Held.setC ?_ (by show w.heap.size + 1 < lox; have := unhide ox; omega) _
          exact unhide x44
        · iterate 13 refine Held.setC ?_ (by show w.heap.size + 1 < log; have := unhide og; omega) _
          exact unhide g44
        · iterate 13 refine Below.setCell ?_ (by exact Nat.le_succ _) _
          exact unhide B44
      · skip
        have ka := (unhide A40).S
        go_simp
        refine hK.out _ _ ?_ (fun hHeld4 => ?_)
        · trivial
        clear hK K
        try simp only [Act.put, qqA, qqB, qqC]
        clear ka
        refine wpAnyH_ready (rs := [2]) (by kernel_rfl) (by simp) ?_
        refine AllReadyH.cons (o := oCopN12) rfl (fun K hK => ?_) AllReadyH.nil
        go_simp
        refine (jcloneA ax cx nx lx HNx hnx _ ((unhide HRx).below (unhide B40))).mono ?_
        rintro e u45 ⟨vv, rfl, ho, hb⟩
        obtain ⟨xA, xC, rfl, -⟩ := ownZ_rowV ho
        have A45 := hide ((unhide A40).below hb)
        have Z45 := hide ((unhide Z40).below hb)
        have B45 := hide ((unhide B40).trans (hb.mono (unhide B40).size))
        have e45 := hide ((unhide e40).below hb (unhide e40).le)
        have v45 := hide ((unhide v40).below hb (unhide v40).le)
        have x45 := hide (held_of ho)
        obtain ⟨lox, hlx⟩ : ∃ q, q = u1039.heap.size := ⟨_, rfl⟩
        obtain ⟨hix, hhx⟩ : ∃ q, q = u45.heap.size := ⟨_, rfl⟩
        have ox : Hid (w.heap.size + 2 ≤ lox) := by show _ ≤ _; rw [hlx]; have := (unhide Z40).lt; omega
        have olx : Hid (lox ≤ hix) := by show _ ≤ _; rw [hlx, hhx]; exact hb.size
        have oox : Hid (hiv ≤ lox) := by show _ ≤ _; rw [hlx]; exact (unhide v40).le
        rw [← hlx, ← hhx] at x45
        clear hb ho hlx hhx A40 Z40 B40 e40 v40
        go_wp2_with fail
        refine hK.out _ _ ?_ (fun hHeld2 => ?_)
        · trivial
        clear hK K
        try simp only [Act.put, qqA, qqB, qqC]
        refine wtk (i := 6) (oi := oCopN13) (v := ?_) rfl (Or.inl ⟨by rfl, ?_⟩) (by assumption) ?_
        rotate_left 1
        · (intro w' hSw; (try dsimp only at hSw); go_simp; try with_reducible rfl)
        try simp only [Act.put, qqA, qqB, qqC]
        refine wpAnyH_ready (rs := [5]) (by kernel_rfl) (by simp) ?_
        refine AllReadyH.cons (o := oCopN14) rfl (fun K hK => ?_) AllReadyH.nil
        go_simp
        refine (jcloneA ag cg ng lg HNg hng _ ((unhide HRg).below (unhide B45))).mono ?_
        rintro e u46 ⟨vv, rfl, ho, hb⟩
        obtain ⟨gA, gC, rfl, -⟩ := ownZ_rowV ho
        have A46 := hide ((unhide A45).below hb)
        have Z46 := hide ((unhide Z45).below hb)
        have B46 := hide ((unhide B45).trans (hb.mono (unhide B45).size))
        have e46 := hide ((unhide e45).below hb (unhide e45).le)
        have v46 := hide ((unhide v45).below hb (unhide v45).le)
        have x46 := hide ((unhide x45).below hb (unhide x45).le)
        have g46 := hide (held_of ho)
        obtain ⟨log, hlg⟩ : ∃ q, q = u45.heap.size := ⟨_, rfl⟩
        obtain ⟨hig, hhg⟩ : ∃ q, q = u46.heap.size := ⟨_, rfl⟩
        have og : Hid (w.heap.size + 2 ≤ log) := by show _ ≤ _; rw [hlg]; have := (unhide Z45).lt; omega
        have olg : Hid (log ≤ hig) := by show _ ≤ _; rw [hlg, hhg]; exact hb.size
        have oog : Hid (hix ≤ log) := by show _ ≤ _; rw [hlg]; exact (unhide x45).le
        rw [← hlg, ← hhg] at g46
        clear hb ho hlg hhg A45 Z45 B45 e45 v45 x45
        go_wp2_with fail
        refine hK.out _ _ ?_ (fun hHeld5 => ?_)
        · trivial
        clear hK K
        try simp only [Act.put, qqA, qqB, qqC]
        refine wpAnyH_ready (rs := [7]) (by kernel_rfl) (by simp) ?_
        refine AllReadyH.cons (o := oCopN15) rfl (fun K hK => ?_) AllReadyH.nil
        have ka := (unhide A46).S
        have kaf := (unhide A46).F
        obtain ⟨u47, hv⟩ : ∃ w9, w9 = u46.setCell ⟨w.heap.size, 11, none⟩ (.slice xA nx xC) := ⟨_, rfl⟩
        have A47 : Hid (BF w.heap.size #[.int .i64 id, .int .i64 nd, .int .i64 tm, .int .i64 vt, .int .i64 ro, .bool up, .slice eA n eC, .int .i64 cm, .int .i64 el, .int .i64 wt, .slice vA nv vC, .slice xA nx xC, .slice ag ng cg] u47) := by rw [hv]; exact (unhide A46).set 11 (by simp) _
        have Z47 : Hid (BF (w.heap.size + 1) #[.int .i64 0, .int .i64 0, .int .i64 0, .int .i64 0, .int .i64 0, .bool false, .slice none 0 0, .int .i64 0, .int .i64 0, .int .i64 0, .slice none 0 0, .slice none 0 0, .slice none 0 0] u47) := by rw [hv]; exact (unhide Z46).far ⟨w.heap.size, 11, none⟩ _ (by show w.heap.size ≠ w.heap.size + 1; omega)
        have B47 : Hid (Below w.heap.size w u47) := by rw [hv]; exact Below.setCell (unhide B46) (by exact Nat.le_refl _) _
        have e47 : Hid (HeldZ 2 u47 loe hie 68 (.slice eA n eC) n (cE l)) := by rw [hv]; exact HeldZ.setC (unhide e46) (by show w.heap.size < loe; have := unhide oe; omega) _
        have v47 : Hid (Held u47 lov hiv 3 (.slice vA nv vC) nv (cI lv)) := by rw [hv]; exact Held.setC (unhide v46) (by show w.heap.size < lov; have := unhide ov; omega) _
        have x47 : Hid (Held u47 lox hix 3 (.slice xA nx xC) nx (cI lx)) := by rw [hv]; exact Held.setC (unhide x46) (by show w.heap.size < lox; have := unhide ox; omega) _
        have g47 : Hid (Held u47 log hig 3 (.slice gA ng gC) ng (cI lg)) := by rw [hv]; exact Held.setC (unhide g46) (by show w.heap.size < log; have := unhide og; omega) _
        go_simp
        rw [← hv]
        refine hK.out _ _ ?_ (fun hHeld7 => ?_)
        · trivial
        clear hK K
        try simp only [Act.put, qqA, qqB, qqC]
        clear hv ka kaf A46 Z46 B46 e46 v46 x46 g46
        refine wtk (i := 8) (oi := oCopN16) (v := ?_) rfl (Or.inl ⟨by rfl, ?_⟩) (by assumption) ?_
        rotate_left 1
        · (intro w' hSw; (try dsimp only at hSw); go_simp; try with_reducible rfl)
        try simp only [Act.put, qqA, qqB, qqC]
        refine wpAnyH_ready (rs := [9]) (by kernel_rfl) (by simp) ?_
        refine AllReadyH.cons (o := oCopN17) rfl (fun K hK => ?_) AllReadyH.nil
        have ka := (unhide A47).S
        have kaf := (unhide A47).F
        obtain ⟨u48, hv⟩ : ∃ w9, w9 = u47.setCell ⟨w.heap.size, 12, none⟩ (.slice gA ng gC) := ⟨_, rfl⟩
        have A48 : Hid (BF w.heap.size #[.int .i64 id, .int .i64 nd, .int .i64 tm, .int .i64 vt, .int .i64 ro, .bool up, .slice eA n eC, .int .i64 cm, .int .i64 el, .int .i64 wt, .slice vA nv vC, .slice xA nx xC, .slice gA ng gC] u48) := by rw [hv]; exact (unhide A47).set 12 (by simp) _
        have Z48 : Hid (BF (w.heap.size + 1) #[.int .i64 0, .int .i64 0, .int .i64 0, .int .i64 0, .int .i64 0, .bool false, .slice none 0 0, .int .i64 0, .int .i64 0, .int .i64 0, .slice none 0 0, .slice none 0 0, .slice none 0 0] u48) := by rw [hv]; exact (unhide Z47).far ⟨w.heap.size, 12, none⟩ _ (by show w.heap.size ≠ w.heap.size + 1; omega)
        have B48 : Hid (Below w.heap.size w u48) := by rw [hv]; exact Below.setCell (unhide B47) (by exact Nat.le_refl _) _
        have e48 : Hid (HeldZ 2 u48 loe hie 68 (.slice eA n eC) n (cE l)) := by rw [hv]; exact HeldZ.setC (unhide e47) (by show w.heap.size < loe; have := unhide oe; omega) _
        have v48 : Hid (Held u48 lov hiv 3 (.slice vA nv vC) nv (cI lv)) := by rw [hv]; exact Held.setC (unhide v47) (by show w.heap.size < lov; have := unhide ov; omega) _
        have x48 : Hid (Held u48 lox hix 3 (.slice xA nx xC) nx (cI lx)) := by rw [hv]; exact Held.setC (unhide x47) (by show w.heap.size < lox; have := unhide ox; omega) _
        have g48 : Hid (Held u48 log hig 3 (.slice gA ng gC) ng (cI lg)) := by rw [hv]; exact Held.setC (unhide g47) (by show w.heap.size < log; have := unhide og; omega) _
        go_simp
        rw [← hv]
        refine hK.out _ _ ?_ (fun hHeld9 => ?_)
        · trivial
        clear hK K
        try simp only [Act.put, qqA, qqB, qqC]
        clear hv ka kaf A47 Z47 B47 e47 v47 x47 g47
        refine wpAnyH_done (by kernel_rfl) ?_ _
        have ka := (unhide A48).S
        have kz := (unhide Z48).S
        have kzf := (unhide Z48).F
        go_wp2_with fail
        refine bodyPost_ret (v := .agg #[.int .i64 id, .int .i64 nd, .int .i64 tm, .int .i64 vt, .int .i64 ro, .bool up, .slice eA n eC, .int .i64 cm, .int .i64 el, .int .i64 wt, .slice vA nv vC, .slice xA nx xC, .slice gA ng gC]) (by simp [results, Try.results24, go_sem, kz]) rfl ⟨eA, eC, vA, vC, xA, xC, gA, gC, loe, hie, lov, hiv, lox, hix, log, hig, rfl, ?_, ?_, ?_, ?_, ⟨by have := unhide oe; omega, unhide oov, unhide oox, unhide oog⟩, ⟨unhide ole, unhide olv, unhide olx, unhide olg⟩, ?_⟩
        · iterate 13 refine HeldZ.setC ?_ (by show w.heap.size + 1 < loe; have := unhide oe; omega) _
          exact unhide e48
        · iterate 13 refine Held.setC ?_ (by show w.heap.size + 1 < lov; have := unhide ov; omega) _
          exact unhide v48
        · iterate 13 refine Held.setC ?_ (by show w.heap.size + 1 < lox; have := unhide ox; omega) _
          exact unhide x48
        · iterate 13 refine Held.setC ?_ (by show w.heap.size + 1 < log; have := unhide og; omega) _
          exact unhide g48
        · iterate 13 refine Below.setCell ?_ (by exact Nat.le_succ _) _
          exact unhide B48
    · skip
      have ka := (unhide A40).S
      go_simp
      refine hK.out _ _ ?_ (fun hHeld4 => ?_)
      · trivial
      clear hK K
      try simp only [Act.put, qqA, qqB, qqC]
      clear ka
      refine wpAnyH_ready (rs := [1]) (by kernel_rfl) (by simp) ?_
      refine AllReadyH.cons (o := oCopN10) rfl (fun K hK => ?_) AllReadyH.nil
      have ka := (unhide A40).S
      go_simp
      refine hK.out _ _ ?_ (fun hHeld1 => ?_)
      · trivial
      clear hK K
      try simp only [Act.put, qqA, qqB, qqC]
      clear ka
      refine wpAnyH_ready (rs := [2]) (by kernel_rfl) (by simp) ?_
      refine AllReadyH.cons (o := oCopN12) rfl (fun K hK => ?_) AllReadyH.nil
      go_simp
      refine (jcloneA ax cx nx lx HNx hnx _ ((unhide HRx).below (unhide B40))).mono ?_
      rintro e u49 ⟨vv, rfl, ho, hb⟩
      obtain ⟨xA, xC, rfl, -⟩ := ownZ_rowV ho
      have A49 := hide ((unhide A40).below hb)
      have Z49 := hide ((unhide Z40).below hb)
      have B49 := hide ((unhide B40).trans (hb.mono (unhide B40).size))
      have e49 := hide ((unhide e40).below hb (unhide e40).le)
      have v49 := hide ((unhide v40).below hb (unhide v40).le)
      have x49 := hide (held_of ho)
      obtain ⟨lox, hlx⟩ : ∃ q, q = u1039.heap.size := ⟨_, rfl⟩
      obtain ⟨hix, hhx⟩ : ∃ q, q = u49.heap.size := ⟨_, rfl⟩
      have ox : Hid (w.heap.size + 2 ≤ lox) := by show _ ≤ _; rw [hlx]; have := (unhide Z40).lt; omega
      have olx : Hid (lox ≤ hix) := by show _ ≤ _; rw [hlx, hhx]; exact hb.size
      have oox : Hid (hiv ≤ lox) := by show _ ≤ _; rw [hlx]; exact (unhide v40).le
      rw [← hlx, ← hhx] at x49
      clear hb ho hlx hhx A40 Z40 B40 e40 v40
      go_wp2_with fail
      refine hK.out _ _ ?_ (fun hHeld2 => ?_)
      · trivial
      clear hK K
      try simp only [Act.put, qqA, qqB, qqC]
      refine wtk (i := 6) (oi := oCopN13) (v := ?_) rfl (Or.inl ⟨by rfl, ?_⟩) (by assumption) ?_
      rotate_left 1
      · (intro w' hSw; (try dsimp only at hSw); go_simp; try with_reducible rfl)
      try simp only [Act.put, qqA, qqB, qqC]
      refine wpAnyH_ready (rs := [5]) (by kernel_rfl) (by simp) ?_
      refine AllReadyH.cons (o := oCopN14) rfl (fun K hK => ?_) AllReadyH.nil
      go_simp
      refine (jcloneA ag cg ng lg HNg hng _ ((unhide HRg).below (unhide B49))).mono ?_
      rintro e u50 ⟨vv, rfl, ho, hb⟩
      obtain ⟨gA, gC, rfl, -⟩ := ownZ_rowV ho
      have A50 := hide ((unhide A49).below hb)
      have Z50 := hide ((unhide Z49).below hb)
      have B50 := hide ((unhide B49).trans (hb.mono (unhide B49).size))
      have e50 := hide ((unhide e49).below hb (unhide e49).le)
      have v50 := hide ((unhide v49).below hb (unhide v49).le)
      have x50 := hide ((unhide x49).below hb (unhide x49).le)
      have g50 := hide (held_of ho)
      obtain ⟨log, hlg⟩ : ∃ q, q = u49.heap.size := ⟨_, rfl⟩
      obtain ⟨hig, hhg⟩ : ∃ q, q = u50.heap.size := ⟨_, rfl⟩
      have og : Hid (w.heap.size + 2 ≤ log) := by show _ ≤ _; rw [hlg]; have := (unhide Z49).lt; omega
      have olg : Hid (log ≤ hig) := by show _ ≤ _; rw [hlg, hhg]; exact hb.size
      have oog : Hid (hix ≤ log) := by show _ ≤ _; rw [hlg]; exact (unhide x49).le
      rw [← hlg, ← hhg] at g50
      clear hb ho hlg hhg A49 Z49 B49 e49 v49 x49
      go_wp2_with fail
      refine hK.out _ _ ?_ (fun hHeld5 => ?_)
      · trivial
      clear hK K
      try simp only [Act.put, qqA, qqB, qqC]
      refine wpAnyH_ready (rs := [7]) (by kernel_rfl) (by simp) ?_
      refine AllReadyH.cons (o := oCopN15) rfl (fun K hK => ?_) AllReadyH.nil
      have ka := (unhide A50).S
      have kaf := (unhide A50).F
      obtain ⟨u51, hv⟩ : ∃ w9, w9 = u50.setCell ⟨w.heap.size, 11, none⟩ (.slice xA nx xC) := ⟨_, rfl⟩
      have A51 : Hid (BF w.heap.size #[.int .i64 id, .int .i64 nd, .int .i64 tm, .int .i64 vt, .int .i64 ro, .bool up, .slice eA n eC, .int .i64 cm, .int .i64 el, .int .i64 wt, .slice vA nv vC, .slice xA nx xC, .slice ag ng cg] u51) := by rw [hv]; exact (unhide A50).set 11 (by simp) _
      have Z51 : Hid (BF (w.heap.size + 1) #[.int .i64 0, .int .i64 0, .int .i64 0, .int .i64 0, .int .i64 0, .bool false, .slice none 0 0, .int .i64 0, .int .i64 0, .int .i64 0, .slice none 0 0, .slice none 0 0, .slice none 0 0] u51) := by rw [hv]; exact (unhide Z50).far ⟨w.heap.size, 11, none⟩ _ (by show w.heap.size ≠ w.heap.size + 1; omega)
      have B51 : Hid (Below w.heap.size w u51) := by rw [hv]; exact Below.setCell (unhide B50) (by exact Nat.le_refl _) _
      have e51 : Hid (HeldZ 2 u51 loe hie 68 (.slice eA n eC) n (cE l)) := by rw [hv]; exact HeldZ.setC (unhide e50) (by show w.heap.size < loe; have := unhide oe; omega) _
      have v51 : Hid (Held u51 lov hiv 3 (.slice vA nv vC) nv (cI lv)) := by rw [hv]; exact Held.setC (unhide v50) (by show w.heap.size < lov; have := unhide ov; omega) _
      have x51 : Hid (Held u51 lox hix 3 (.slice xA nx xC) nx (cI lx)) := by rw [hv]; exact Held.setC (unhide x50) (by show w.heap.size < lox; have := unhide ox; omega) _
      have g51 : Hid (Held u51 log hig 3 (.slice gA ng gC) ng (cI lg)) := by rw [hv]; exact Held.setC (unhide g50) (by show w.heap.size < log; have := unhide og; omega) _
      go_simp
      rw [← hv]
      refine hK.out _ _ ?_ (fun hHeld7 => ?_)
      · trivial
      clear hK K
      try simp only [Act.put, qqA, qqB, qqC]
      clear hv ka kaf A50 Z50 B50 e50 v50 x50 g50
      refine wtk (i := 8) (oi := oCopN16) (v := ?_) rfl (Or.inl ⟨by rfl, ?_⟩) (by assumption) ?_
      rotate_left 1
      · (intro w' hSw; (try dsimp only at hSw); go_simp; try with_reducible rfl)
      try simp only [Act.put, qqA, qqB, qqC]
      refine wpAnyH_ready (rs := [9]) (by kernel_rfl) (by simp) ?_
      refine AllReadyH.cons (o := oCopN17) rfl (fun K hK => ?_) AllReadyH.nil
      have ka := (unhide A51).S
      have kaf := (unhide A51).F
      obtain ⟨u52, hv⟩ : ∃ w9, w9 = u51.setCell ⟨w.heap.size, 12, none⟩ (.slice gA ng gC) := ⟨_, rfl⟩
      have A52 : Hid (BF w.heap.size #[.int .i64 id, .int .i64 nd, .int .i64 tm, .int .i64 vt, .int .i64 ro, .bool up, .slice eA n eC, .int .i64 cm, .int .i64 el, .int .i64 wt, .slice vA nv vC, .slice xA nx xC, .slice gA ng gC] u52) := by rw [hv]; exact (unhide A51).set 12 (by simp) _
      have Z52 : Hid (BF (w.heap.size + 1) #[.int .i64 0, .int .i64 0, .int .i64 0, .int .i64 0, .int .i64 0, .bool false, .slice none 0 0, .int .i64 0, .int .i64 0, .int .i64 0, .slice none 0 0, .slice none 0 0, .slice none 0 0] u52) := by rw [hv]; exact (unhide Z51).far ⟨w.heap.size, 12, none⟩ _ (by show w.heap.size ≠ w.heap.size + 1; omega)
      have B52 : Hid (Below w.heap.size w u52) := by rw [hv]; exact Below.setCell (unhide B51) (by exact Nat.le_refl _) _
      have e52 : Hid (HeldZ 2 u52 loe hie 68 (.slice eA n eC) n (cE l)) := by rw [hv]; exact HeldZ.setC (unhide e51) (by show w.heap.size < loe; have := unhide oe; omega) _
      have v52 : Hid (Held u52 lov hiv 3 (.slice vA nv vC) nv (cI lv)) := by rw [hv]; exact Held.setC (unhide v51) (by show w.heap.size < lov; have := unhide ov; omega) _
      have x52 : Hid (Held u52 lox hix 3 (.slice xA nx xC) nx (cI lx)) := by rw [hv]; exact Held.setC (unhide x51) (by show w.heap.size < lox; have := unhide ox; omega) _
      have g52 : Hid (Held u52 log hig 3 (.slice gA ng gC) ng (cI lg)) := by rw [hv]; exact Held.setC (unhide g51) (by show w.heap.size < log; have := unhide og; omega) _
      go_simp
      rw [← hv]
      refine hK.out _ _ ?_ (fun hHeld9 => ?_)
      · trivial
      clear hK K
      try simp only [Act.put, qqA, qqB, qqC]
      clear hv ka kaf A51 Z51 B51 e51 v51 x51 g51
      refine wpAnyH_done (by kernel_rfl) ?_ _
      have ka := (unhide A52).S
      have kz := (unhide Z52).S
      have kzf := (unhide Z52).F
      go_wp2_with fail
      refine bodyPost_ret (v := .agg #[.int .i64 id, .int .i64 nd, .int .i64 tm, .int .i64 vt, .int .i64 ro, .bool up, .slice eA n eC, .int .i64 cm, .int .i64 el, .int .i64 wt, .slice vA nv vC, .slice xA nx xC, .slice gA ng gC]) (by simp [results, Try.results24, go_sem, kz]) rfl ⟨eA, eC, vA, vC, xA, xC, gA, gC, loe, hie, lov, hiv, lox, hix, log, hig, rfl, ?_, ?_, ?_, ?_, ⟨by have := unhide oe; omega, unhide oov, unhide oox, unhide oog⟩, ⟨unhide ole, unhide olv, unhide olx, unhide olg⟩, ?_⟩
      · iterate 13 refine HeldZ.setC ?_ (by show w.heap.size + 1 < loe; have := unhide oe; omega) _
        exact unhide e52
      · iterate 13 refine Held.setC ?_ (by show w.heap.size + 1 < lov; have := unhide ov; omega) _
        exact unhide v52
      · iterate 13 refine Held.setC ?_ (by show w.heap.size + 1 < lox; have := unhide ox; omega) _
        exact unhide x52
      · iterate 13 refine Held.setC ?_ (by show w.heap.size + 1 < log; have := unhide og; omega) _
        exact unhide g52
      · iterate 13 refine Below.setCell ?_ (by exact Nat.le_succ _) _
        exact unhide B52
end Go.Proofs.Ytjlajpnhcphngaa
