/- The specification's send. -/
import Derived.Test.YtjlajpnhcphngaaZSnM
namespace Go.Proofs.Ytjlajpnhcphngaa
open Go.ChangeShapes Go.WideShapes Go.ChangeAt Go.RowKit
set_option linter.unusedVariables false
abbrev oSnS0 : Oper := { dst := some 22, op := .move (.tmp 0), type := 64, pos := "l08_raft.go:68", after := #[], guard := none }
abbrev oSnS1 : Oper := { dst := some 23, op := .move (.tmp 0), type := 64, pos := "l08_raft.go:68", after := #[], guard := none }
abbrev oSnS2 : Oper := { dst := some 24, op := .nilCheck (.tmp 23), type := 0, pos := "l08_raft.go:68", after := #[{ on := 1, ground := .data }], guard := none }
abbrev oSnS3 : Oper := { dst := some 25, op := .fieldAddr 66 (.tmp 24) 1, type := 0, pos := "l08_raft.go:68", after := #[{ on := 2, ground := .data }], guard := none }
abbrev oSnS4 : Oper := { dst := some 27, op := .load 54 (.tmp 3), type := 54, pos := "l08_raft.go:68", after := #[], guard := none }
abbrev oSnS5 : Oper := { dst := some 26, op := .load 30 (.tmp 25), type := 30, pos := "l08_raft.go:68", after := #[{ on := 3, ground := .data }], guard := none }
abbrev oSnS6 : Oper := { dst := some 28, op := .buildSlice 30 1 #[(0, .tmp 27)], type := 30, pos := "l08_raft.go:68", after := #[{ on := 5, ground := .data }], guard := none }
abbrev oSnS7 : Oper := { dst := some 29, op := .call { callee := .builtin Go.Builtin.append, args := #[.tmp 26, .tmp 28], argTypes := #[30, 30] }, type := 30, pos := "l08_raft.go:68", after := #[{ on := 4, ground := .data }, { on := 6, ground := .data }], guard := none }
abbrev oSnS8 : Oper := { dst := some 30, op := .nilCheck (.tmp 22), type := 0, pos := "l08_raft.go:68", after := #[{ on := 0, ground := .data }, { on := 0, ground := .phase }, { on := 1, ground := .phase }, { on := 2, ground := .phase }, { on := 3, ground := .phase }, { on := 4, ground := .phase }, { on := 5, ground := .phase }, { on := 6, ground := .phase }, { on := 7, ground := .phase }], guard := none }
abbrev oSnS9 : Oper := { dst := some 31, op := .fieldAddr 66 (.tmp 30) 1, type := 0, pos := "l08_raft.go:68", after := #[{ on := 8, ground := .data }, { on := 0, ground := .phase }, { on := 1, ground := .phase }, { on := 2, ground := .phase }, { on := 3, ground := .phase }, { on := 4, ground := .phase }, { on := 5, ground := .phase }, { on := 6, ground := .phase }, { on := 7, ground := .phase }], guard := none }
abbrev oSnS10 : Oper := { dst := none, op := .store 30 (.tmp 31) (.tmp 29), type := 0, pos := "l08_raft.go:68", after := #[{ on := 9, ground := .data }, { on := 7, ground := .data }, { on := 7, ground := .chain }, { on := 0, ground := .phase }, { on := 1, ground := .phase }, { on := 2, ground := .phase }, { on := 3, ground := .phase }, { on := 4, ground := .phase }, { on := 5, ground := .phase }, { on := 6, ground := .phase }, { on := 7, ground := .phase }], guard := none }
set_option maxHeartbeats 4000000 in
set_option maxRecDepth 100000 in
theorem ssend (P : Nat) (id : Int) (nd : Nat) (tm vt ro : Int) (c : Nat) (el wt : Int) (up : Bool) (a : Option Addr) (cap n : Nat) (av : Option Addr) (cv nv : Nat) (ax : Option Addr) (cx nx : Nat) (ag : Option Addr) (cg ng : Nat) (ao : Option Addr) (no co : Nat) (kd fr0 dst tm0 ix lt cmm : Int) (ok : Bool) (ae : Option Addr) (ne ce : Nat) (es : List Ent) (HNE : Hid (es.length = ne)) (hne : ne ≤ 1048576) (lo : Nat) (L : List MgA) (HNO : Hid (L.length = no)) (hno : no ≤ 1000) (w0 w : World) (hP : BF P #[.int .i64 id, .int .i64 (nd : Int), .int .i64 tm, .int .i64 vt, .int .i64 ro, .bool up, .slice a n cap, .int .i64 (c : Int), .int .i64 el, .int .i64 wt, .slice av nv cv, .slice ax nx cx, .slice ag ng cg, .slice ao no co] w) (hM : MOwn w lo (.slice ao no co) L) (hE : w.ownsRow lo 68 2 (.slice ae ne ce) ne (cE es)) (hlo : lo ≤ w.heap.size) (hw0 : w0.heap.size ≤ w.heap.size) (hFE : ∀ j, (Value.slice ae ne ce).ownBlock = some j → w0.heap.size ≤ j) (hLT : ∀ q ∈ L, ∀ j, (sl q).ownBlock = some j → j < w0.heap.size) (hLV : ∀ j, (Value.slice ao no co).ownBlock = some j → j < w0.heap.size) (hPw0 : P < w0.heap.size) (hOPo : (Value.slice ao no co).ownBlock ≠ some P) (hOPl : ∀ x ∈ L, (sl x).ownBlock ≠ some P) :
    Calls Try.prog 62 #[.pointer (some ⟨P, 0, none⟩), .agg #[.int .i64 kd, .int .i64 fr0, .int .i64 dst, .int .i64 tm0, .int .i64 ix, .int .i64 lt, .int .i64 cmm, .bool ok, .slice ae ne ce]] w fun e w' => ∃ g7 c7 p, e = .returned (.tuple #[]) ∧ BF P #[.int .i64 id, .int .i64 (nd : Int), .int .i64 tm, .int .i64 vt, .int .i64 ro, .bool up, .slice a n cap, .int .i64 (c : Int), .int .i64 el, .int .i64 wt, .slice av nv cv, .slice ax nx cx, .slice ag ng cg, .slice (some ⟨g7, 0, none⟩) (no + 1) c7] w' ∧ MOwn w' lo (.slice (some ⟨g7, 0, none⟩) (no + 1) c7) (L ++ [p]) ∧ p.1 = ⟨kd, id, dst, tm, ix, lt, cmm, ok, es⟩ ∧ Two P (Value.slice ao no co).ownBlock w w' ∧ ((Value.slice ao no co).ownBlock = some g7 ∨ w.heap.size ≤ g7) ∧ ∀ x ∈ L ++ [p], (sl x).ownBlock ≠ some P := by
  obtain ⟨im, him, him0, him1, him2⟩ := info_parts Try.infM54
  obtain ⟨Q, hQ⟩ : ∃ Q, Q = w.heap.size := ⟨_, rfl⟩
  obtain ⟨w0s, hw0s⟩ : ∃ q, q = w0.heap.size := ⟨_, rfl⟩
  have hPw : Hid (P < w.heap.size) := hP.lt
  have hPQ : Hid (P < Q) := by show _ < _; rw [hQ]; exact hP.lt
  have hPw0 := hide hPw0
  have OPo := hide hOPo
  have OPl := hide hOPl
  have OQo : Hid ((Value.slice ao no co).ownBlock ≠ some Q) := fun e => by have := (hM.row.lt Q e).2; omega
  have LT := hide hLT
  have LV := hide hLV
  have A0 := hide (hP.alloc (.cells #[.int .i64 kd, .int .i64 fr0, .int .i64 dst, .int .i64 tm0, .int .i64 ix, .int .i64 lt, .int .i64 cmm, .bool ok, .slice ae ne ce] 54))
  have Q0 := hide (BF.new w #[.int .i64 kd, .int .i64 fr0, .int .i64 dst, .int .i64 tm0, .int .i64 ix, .int .i64 lt, .int .i64 cmm, .bool ok, .slice ae ne ce] 54)
  have B0 := hide (Go.Joins.below_alloc1 w (.cells #[.int .i64 kd, .int .i64 fr0, .int .i64 dst, .int .i64 tm0, .int .i64 ix, .int .i64 lt, .int .i64 cmm, .bool ok, .slice ae ne ce] 54))
  rw [← hQ] at Q0
  -- From and Term
  obtain ⟨w1, hw1⟩ : ∃ w1, w1 = (w.alloc (.cells #[.int .i64 kd, .int .i64 fr0, .int .i64 dst, .int .i64 tm0, .int .i64 ix, .int .i64 lt, .int .i64 cmm, .bool ok, .slice ae ne ce] 54)).setCell ⟨Q, 1, none⟩ (.int .i64 id) := ⟨_, rfl⟩
  obtain ⟨w2, hw2⟩ : ∃ w2, w2 = w1.setCell ⟨Q, 3, none⟩ (.int .i64 tm) := ⟨_, rfl⟩
  have Q1 : BF Q #[.int .i64 kd, .int .i64 id, .int .i64 dst, .int .i64 tm0, .int .i64 ix, .int .i64 lt, .int .i64 cmm, .bool ok, .slice ae ne ce] w1 := by rw [hw1]; exact (unhide Q0).set 1 (by simp) _
  have Q2 : BF Q #[.int .i64 kd, .int .i64 id, .int .i64 dst, .int .i64 tm, .int .i64 ix, .int .i64 lt, .int .i64 cmm, .bool ok, .slice ae ne ce] w2 := by rw [hw2]; exact Q1.set 3 (by simp) _
  have P1 : BF P #[.int .i64 id, .int .i64 (nd : Int), .int .i64 tm, .int .i64 vt, .int .i64 ro, .bool up, .slice a n cap, .int .i64 (c : Int), .int .i64 el, .int .i64 wt, .slice av nv cv, .slice ax nx cx, .slice ag ng cg, .slice ao no co] w1 := by rw [hw1]; exact (unhide A0).far ⟨Q, 1, none⟩ _ (by have := unhide hPQ; show Q ≠ P; omega)
  have P2 : BF P #[.int .i64 id, .int .i64 (nd : Int), .int .i64 tm, .int .i64 vt, .int .i64 ro, .bool up, .slice a n cap, .int .i64 (c : Int), .int .i64 el, .int .i64 wt, .slice av nv cv, .slice ax nx cx, .slice ag ng cg, .slice ao no co] w2 := by rw [hw2]; exact P1.far ⟨Q, 3, none⟩ _ (by have := unhide hPQ; show Q ≠ P; omega)
  have T2 : Below w.heap.size w w2 := by rw [hw2, hw1, hQ]; exact Below.setCell (Below.setCell (unhide B0) (by exact Nat.le_refl _) _) (by exact Nat.le_refl _) _
  have HP1 := hide P1
  have HQ1 := hide Q1
  have HP2 := hide P2
  have HQ2 := hide Q2
  have HT2 := hide T2
  have HM := hide hM
  have HEE := hide hE
  have HFE := hide hFE
  have HW1 := hide hw1
  have HW2 := hide hw2
  have HQQ := hide hQ
  have HLO : Hid (lo ≤ w.heap.size ∧ w0.heap.size ≤ w.heap.size ∧ w0s = w0.heap.size) := ⟨hlo, hw0, hw0s⟩
  clear hP hM hE hFE hLT hLV hOPo hOPl P1 Q1 P2 Q2 T2 hw1 hw2 B0 hQ hlo hw0 hw0s
  have ka := (unhide A0).S
  have kq0 := (unhide Q0).S
  have kq0f := (unhide Q0).F
  go_enter Try.func62, Try.ntmps62
  go_upto_region 1 with fail
  rw [← unhide HQQ]
  go_upto_region 2 with fail
  rw [← unhide HW1]
  clear ka kq0 kq0f A0 Q0 HW1
  have ka := (unhide HP1).S
  have kq0 := (unhide HQ1).S
  have kq0f := (unhide HQ1).F
  go_upto_region 3 with fail
  rw [← unhide HW2]
  clear ka kq0 kq0f HP1 HQ1 HW2
  have hlo : lo ≤ w.heap.size := (unhide HLO).1
  have hw0 : w0s ≤ w.heap.size := by have := unhide HLO; omega
  by_cases hz : ne = 0
  · have HE0 : es = [] := List.length_eq_zero_iff.1 ((unhide HNE).trans hz)
    subst hz
    subst HE0
    obtain ⟨R0, hR0⟩ : ∃ R, R = w2.heap.size := ⟨_, rfl⟩
    obtain ⟨w3, hw3⟩ : ∃ w3, w3 = (w2.alloc (.cells #[] 68)).setCell ⟨Q, 8, none⟩ (.slice (some ⟨R0, 0, none⟩) 0 0) := ⟨_, rfl⟩
    have Q3 : Hid (BF Q #[.int .i64 kd, .int .i64 id, .int .i64 dst, .int .i64 tm, .int .i64 ix, .int .i64 lt, .int .i64 cmm, .bool ok, .slice (some ⟨R0, 0, none⟩) 0 0] w3) := by rw [hw3]; exact (BF.alloc (unhide HQ2) _).set 8 (by simp) _
    have P3 : Hid (BF P #[.int .i64 id, .int .i64 (nd : Int), .int .i64 tm, .int .i64 vt, .int .i64 ro, .bool up, .slice a n cap, .int .i64 (c : Int), .int .i64 el, .int .i64 wt, .slice av nv cv, .slice ax nx cx, .slice ag ng cg, .slice ao no co] w3) := by rw [hw3]; exact (BF.alloc (unhide HP2) _).far ⟨Q, 8, none⟩ _ (by have := unhide hPQ; show Q ≠ P; omega)
    have T3 : Hid (Below w.heap.size w w3) := by rw [hw3]; exact Below.setCell ((unhide HT2).alloc (unhide HT2).size _) (by show w.heap.size ≤ Q; rw [unhide HQQ]; exact Nat.le_refl _) _
    have M3 := hide ((unhide HM).below (unhide T3))
    have E3 : Hid (w3.ownsRow lo 68 2 (.slice (some ⟨R0, 0, none⟩) 0 0) 0 (cE [])) := by
      have h := lit_emptyE w2 68 w2.heap.size (Nat.le_refl _)
      have h2 := own_low (ownsRow_setCell_below h (a := ⟨Q, 8, none⟩) (unhide HQ2).lt (.slice (some ⟨R0, 0, none⟩) 0 0)) (by have := (unhide HT2).size; omega : lo ≤ w2.heap.size)
      rw [← hR0] at h2
      rw [hw3]; exact h2
    have FE3 : Hid (∀ j, (Value.slice (some ⟨R0, 0, none⟩) 0 0).ownBlock = some j → w0.heap.size ≤ j) := fun j hj => by have e : R0 = j := Option.some.inj hj; have := (unhide HT2).size; have := unhide HLO; omega
    have HR0 := hide hR0
    have HW3 := hide hw3
    clear hR0 hw3
    have q2 := (unhide HQ2).S
    have q2f := (unhide HQ2).F
    have q2b := (BF.alloc (unhide HQ2) (.cells #[] 68)).S
    have q2bf := (BF.alloc (unhide HQ2) (.cells #[] 68)).F
    go_upto_region 5 with fail
    rw [← unhide HR0, ← unhide HW3]
    clear q2 q2f q2b q2bf HR0 HW3 HP2 HQ2 HT2 HM HEE HFE
    obtain ⟨p, hp⟩ : ∃ p : MgA, p = (⟨kd, id, dst, tm, ix, lt, cmm, ok, []⟩, (some ⟨R0, 0, none⟩), 0) := ⟨_, rfl⟩
    have LEN : ([] : List Ent).length = 0 := unhide HNE
    have PC : Hid (cM p = [.int .i64 kd, .int .i64 id, .int .i64 dst, .int .i64 tm, .int .i64 ix, .int .i64 lt, .int .i64 cmm, .bool ok, .slice (some ⟨R0, 0, none⟩) 0 0]) := by show _ = _; rw [hp]; simp only [cM, sl, LEN]
    have PM : Hid (p.1 = ⟨kd, id, dst, tm, ix, lt, cmm, ok, []⟩) := by show _ = _; rw [hp]
    have PS : sl p = .slice (some ⟨R0, 0, none⟩) 0 0 := by rw [hp]; simp only [sl, LEN]
    have PE : p.1.es = [] := by rw [hp]
    have E4 : Hid (w3.drew.ownsRow lo 68 2 (sl p) p.1.es.length (cE p.1.es)) := by show World.ownsRow _ _ _ _ _ _ _; rw [PS, PE, LEN]; exact ((heldZ_of (unhide E3)).below (Below.refl _ _).drew (Nat.le_refl _)).own
    have FE : Hid (∀ j, (sl p).ownBlock = some j → w0.heap.size ≤ j) := fun j hj => by rw [PS] at hj; exact unhide FE3 j hj
    have OPe : Hid (∀ x ∈ L ++ [p], (sl x).ownBlock ≠ some P) := fun x hx e => by
      rcases List.mem_append.1 hx with hx | hx
      · exact unhide OPl x hx e
      · obtain rfl : x = p := by simpa using hx
        have := unhide FE P e; have := unhide hPw0; omega
    have P4 := hide (unhide P3).drew
    have Q4 := hide (unhide Q3).drew
    have M4 := hide ((unhide M3).below (Below.refl _ _).drew)
    have T4 := hide (unhide T3).drew
    have kq := (unhide Q3).S
    clear hp PS E3 P3 Q3 M3 T3 PE LEN FE3
    go_wp2_with fail
    refine wp_region_held_drew (S := fun w' => ∀ o, w'.cell? ⟨Q, o, none⟩ = (#[.int .i64 kd, .int .i64 id, .int .i64 dst, .int .i64 tm, .int .i64 ix, .int .i64 lt, .int .i64 cmm, .bool ok, .slice (some ⟨R0, 0, none⟩) 0 0] : Array Value)[o]?) (by kernel_rfl) kq (fun hHeld => ?_)
    generalize w3.drew = w4 at P4 Q4 M4 E4 T4 hHeld ⊢
    refine wtk (i := 0) (oi := oSnS0) (v := ?_) rfl (Or.inl ⟨by rfl, ?_⟩) (by assumption) ?_
    rotate_left 1
    · (intro w' hSw; (try dsimp only at hSw); go_simp; try with_reducible rfl)
    try simp only [Act.put, qqA, qqB, qqC]
    refine wtk (i := 1) (oi := oSnS1) (v := ?_) rfl (Or.inl ⟨by rfl, ?_⟩) (by assumption) ?_
    rotate_left 1
    · (intro w' hSw; (try dsimp only at hSw); go_simp; try with_reducible rfl)
    try simp only [Act.put, qqA, qqB, qqC]
    refine wtk (i := 2) (oi := oSnS2) (v := ?_) rfl (Or.inl ⟨by rfl, ?_⟩) (by assumption) ?_
    rotate_left 1
    · (intro w' hSw; (try dsimp only at hSw); go_simp; try with_reducible rfl)
    try simp only [Act.put, qqA, qqB, qqC]
    refine wtk (i := 3) (oi := oSnS3) (v := ?_) rfl (Or.inl ⟨by rfl, ?_⟩) (by assumption) ?_
    rotate_left 1
    · (intro w' hSw; (try dsimp only at hSw); go_simp; try with_reducible rfl)
    try simp only [Act.put, qqA, qqB, qqC]
    refine wtk (i := 5) (oi := oSnS4) (v := ?_) rfl (Or.inl ⟨by rfl, ?_⟩) (by assumption) ?_
    rotate_left 1
    · (intro w' hSw; (try dsimp only at hSw); go_simp; try with_reducible rfl)
    try simp only [Act.put, qqA, qqB, qqC]
    refine wpAnyH_ready (rs := [4, 6]) (by kernel_rfl) (by simp) ?_
    refine AllReadyH.cons (o := oSnS5) rfl (fun K hK => ?_) (AllReadyH.cons (o := oSnS6) rfl (fun K hK => ?_) AllReadyH.nil)
    · skip
      have kp := (unhide P4).S
      go_simp
      refine hK.out _ _ ?_ (fun hHeldL => ?_)
      · exact hHeld
      clear hK K kp
      try simp only [Act.put, qqA, qqB, qqC]
      refine wpAnyH_ready (rs := [6]) (by kernel_rfl) (by simp) ?_
      refine AllReadyH.cons (o := oSnS6) rfl (fun K hK => ?_) AllReadyH.nil
      obtain ⟨R, hR⟩ : ∃ R, R = w4.heap.size := ⟨_, rfl⟩
      have hb5 : Below w4.heap.size w4 (w4.alloc (.cells #[.int .i64 kd, .int .i64 id, .int .i64 dst, .int .i64 tm, .int .i64 ix, .int .i64 lt, .int .i64 cmm, .bool ok, .slice (some ⟨R0, 0, none⟩) 0 0] 54)) := Go.Joins.below_alloc1 w4 (.cells #[.int .i64 kd, .int .i64 id, .int .i64 dst, .int .i64 tm, .int .i64 ix, .int .i64 lt, .int .i64 cmm, .bool ok, .slice (some ⟨R0, 0, none⟩) 0 0] 54)
      have R5 := hide (BF.new w4 #[.int .i64 kd, .int .i64 id, .int .i64 dst, .int .i64 tm, .int .i64 ix, .int .i64 lt, .int .i64 cmm, .bool ok, .slice (some ⟨R0, 0, none⟩) 0 0] 54)
      have P5 := hide ((unhide P4).below hb5)
      have Q5 := hide ((unhide Q4).below hb5)
      have M5 := hide ((unhide M4).below hb5)
      have E5 := hide (((heldZ_of (unhide E4)).below hb5 (Nat.le_refl _)).own)
      have T5 := hide ((unhide T4).trans (hb5.mono (unhide T4).size))
      rw [← hR] at R5
      go_simp
      refine hK.out _ _ ?_ (fun hHeldB => ?_)
      · exact (unhide Q5).S
      clear hK K
      try simp only [Act.put, qqA, qqB, qqC]
      rw [← hR]
      have rl : Hid (w0s ≤ R) := by show _ ≤ _; rw [hR]; have := (unhide T4).size; omega
      clear hb5 hR
      generalize w4.alloc (.cells #[.int .i64 kd, .int .i64 id, .int .i64 dst, .int .i64 tm, .int .i64 ix, .int .i64 lt, .int .i64 cmm, .bool ok, .slice (some ⟨R0, 0, none⟩) 0 0] 54) = w5 at R5 P5 Q5 M5 E5 T5 hHeldB ⊢
      refine wpAnyH_ready (rs := [7]) (by kernel_rfl) (by simp) ?_
      refine AllReadyH.cons (o := oSnS7) rfl (fun K hK => ?_) AllReadyH.nil
      refine step_append_lies w5 rfl (.tmp 26) (.tmp 28) 30 rfl lo 54 im (.agg #[.int .i64 0, .int .i64 0, .int .i64 0, .int .i64 0, .int .i64 0, .int .i64 0, .int .i64 0, .bool false, .slice none 0 0]) 9 88 Try.underlying30 him him0 him1 him2 rfl (by decide) (.slice ao no co) no (cMs L) rfl (by have h := (unhide M5).row; rw [unhide HNO] at h; exact h) ⟨R, 0, none⟩ 1 1 [.int .i64 kd, .int .i64 id, .int .i64 dst, .int .i64 tm, .int .i64 ix, .int .i64 lt, .int .i64 cmm, .bool ok, .slice (some ⟨R0, 0, none⟩) 0 0] rfl rfl (by intro j u hj; have e := (unhide R5).S j; rw [show (⟨R, 0, none⟩ : Addr).add j = ⟨R, j, none⟩ from (by unfold Addr.add; split <;> simp_all)]; rw [e]; simpa using hj) (by rw [← unhide PC]; exact cM_one p) (by decide) (by unfold maxLen; omega) (by omega) (by have := (unhide T5).size; omega) _ rfl ?_
      intro g7 c7 w7 ho7 hg7 hat7 hlt7
      have P7 := hide ((unhide P5).grown hg7 (unhide OPo))
      have Q7 := hide ((unhide Q5).grown hg7 (unhide OQo))
      have M7 : Hid (MOwn w7 lo (.slice (some ⟨g7, 0, none⟩) (no + 1) c7) (L ++ [p])) := by
        have h := MOwn.snoc (w0 := w0) (p := p) (g := g7) (cap := c7) (unhide M5) (unhide LT) (unhide LV) (unhide E5) (unhide FE) hg7 (by rw [unhide HNO, unhide PC]; exact ho7) hat7
        rw [unhide HNO] at h
        exact h
      have T7 : Hid (Two P (Value.slice ao no co).ownBlock w w7) := Two.trans (Two.of_below (unhide T5)) (Two.of_grown hg7 (fun k _ e => .inr e)) (fun j _ e => e)
      have FR : Hid ((Value.slice ao no co).ownBlock = some g7 ∨ w.heap.size ≤ g7) := by
        rcases hat7 with h | h
        · exact .inl h
        · right; have := (unhide T5).size; omega
      clear ho7 hg7 hat7 hlt7 P5 Q5 M5 E5 T5 R5
      refine hK.out _ _ ?_ (fun hHeld7 => ?_)
      · exact (unhide Q7).S
      clear hK K
      try simp only [Act.put, qqA, qqB, qqC]
      refine wtk (i := 8) (oi := oSnS8) (v := ?_) rfl (Or.inl ⟨by rfl, ?_⟩) (by assumption) ?_
      rotate_left 1
      · (intro w' hSw; (try dsimp only at hSw); go_simp; try with_reducible rfl)
      try simp only [Act.put, qqA, qqB, qqC]
      refine wtk (i := 9) (oi := oSnS9) (v := ?_) rfl (Or.inl ⟨by rfl, ?_⟩) (by assumption) ?_
      rotate_left 1
      · (intro w' hSw; (try dsimp only at hSw); go_simp; try with_reducible rfl)
      try simp only [Act.put, qqA, qqB, qqC]
      refine wpAnyH_ready (rs := [10]) (by kernel_rfl) (by simp) ?_
      refine AllReadyH.cons (o := oSnS10) rfl (fun K hK => ?_) AllReadyH.nil
      have kp := (unhide P7).S
      have kpf := (unhide P7).F
      obtain ⟨w8, hw8⟩ : ∃ w8, w8 = w7.setCell ⟨P, 13, none⟩ (.slice (some ⟨g7, 0, none⟩) (no + 1) c7) := ⟨_, rfl⟩
      have P8 : BF P #[.int .i64 id, .int .i64 (nd : Int), .int .i64 tm, .int .i64 vt, .int .i64 ro, .bool up, .slice a n cap, .int .i64 (c : Int), .int .i64 el, .int .i64 wt, .slice av nv cv, .slice ax nx cx, .slice ag ng cg, .slice (some ⟨g7, 0, none⟩) (no + 1) c7] w8 := by rw [hw8]; exact (unhide P7).set 13 (by simp) _
      have hf8 : ∀ k, k ≠ P → w8.heap[k]? = w7.heap[k]? := fun k hk => by rw [hw8]; exact Below.heap_setCell _ _ _ _ hk
      have hs8 : w7.heap.size ≤ w8.heap.size := by rw [hw8]; simp
      have Q8 := (unhide Q7).keep hs8 (hf8 _ (by have := unhide hPQ; omega))
      have T8 : Two P (Value.slice ao no co).ownBlock w w8 := by rw [hw8]; exact (unhide T7).set
      have M8 : MOwn w8 lo (.slice (some ⟨g7, 0, none⟩) (no + 1) c7) (L ++ [p]) := by
        have hm := unhide M7
        refine ⟨own_farJ hm.row hf8 (fun h => ?_), fun x hx => own_farJ (hm.ent x hx) hf8 (fun h => unhide OPe x hx h), hm.apart, hm.off⟩
        have e : g7 = P := Option.some.inj h
        rcases unhide FR with h1 | h1
        · exact unhide OPo (by rw [h1, e])
        · have := unhide hPw; omega
      go_simp
      rw [← hw8]
      refine hK.out _ _ ?_ (fun hHeld10 => ?_)
      · exact Q8.S
      clear hK K
      try simp only [Act.put, qqA, qqB, qqC]
      refine wpAnyH_done (by kernel_rfl) ?_ _
      have FIN := hide (And.intro P8 (And.intro M8 T8))
      clear P8 M8 T8 Q8 hf8 hs8 hw8 kp kpf P7 Q7 M7 T7
      go_wp2_with fail
      go_end0
      obtain ⟨P8, M8, T8⟩ := unhide FIN
      exact ⟨g7, c7, p, rfl, P8, M8, unhide PM, T8, unhide FR, unhide OPe⟩
    · skip
      obtain ⟨R, hR⟩ : ∃ R, R = w4.heap.size := ⟨_, rfl⟩
      have hb5 : Below w4.heap.size w4 (w4.alloc (.cells #[.int .i64 kd, .int .i64 id, .int .i64 dst, .int .i64 tm, .int .i64 ix, .int .i64 lt, .int .i64 cmm, .bool ok, .slice (some ⟨R0, 0, none⟩) 0 0] 54)) := Go.Joins.below_alloc1 w4 (.cells #[.int .i64 kd, .int .i64 id, .int .i64 dst, .int .i64 tm, .int .i64 ix, .int .i64 lt, .int .i64 cmm, .bool ok, .slice (some ⟨R0, 0, none⟩) 0 0] 54)
      have R5 := hide (BF.new w4 #[.int .i64 kd, .int .i64 id, .int .i64 dst, .int .i64 tm, .int .i64 ix, .int .i64 lt, .int .i64 cmm, .bool ok, .slice (some ⟨R0, 0, none⟩) 0 0] 54)
      have P5 := hide ((unhide P4).below hb5)
      have Q5 := hide ((unhide Q4).below hb5)
      have M5 := hide ((unhide M4).below hb5)
      have E5 := hide (((heldZ_of (unhide E4)).below hb5 (Nat.le_refl _)).own)
      have T5 := hide ((unhide T4).trans (hb5.mono (unhide T4).size))
      rw [← hR] at R5
      go_simp
      refine hK.out _ _ ?_ (fun hHeldB => ?_)
      · exact (unhide Q5).S
      clear hK K
      try simp only [Act.put, qqA, qqB, qqC]
      rw [← hR]
      have rl : Hid (w0s ≤ R) := by show _ ≤ _; rw [hR]; have := (unhide T4).size; omega
      clear hb5 hR
      generalize w4.alloc (.cells #[.int .i64 kd, .int .i64 id, .int .i64 dst, .int .i64 tm, .int .i64 ix, .int .i64 lt, .int .i64 cmm, .bool ok, .slice (some ⟨R0, 0, none⟩) 0 0] 54) = w5 at R5 P5 Q5 M5 E5 T5 hHeldB ⊢
      refine wpAnyH_ready (rs := [4]) (by kernel_rfl) (by simp) ?_
      refine AllReadyH.cons (o := oSnS5) rfl (fun K hK => ?_) AllReadyH.nil
      have kp := (unhide P5).S
      go_simp
      refine hK.out _ _ ?_ (fun hHeldL => ?_)
      · exact (unhide Q5).S
      clear hK K kp
      try simp only [Act.put, qqA, qqB, qqC]
      refine wpAnyH_ready (rs := [7]) (by kernel_rfl) (by simp) ?_
      refine AllReadyH.cons (o := oSnS7) rfl (fun K hK => ?_) AllReadyH.nil
      refine step_append_lies w5 rfl (.tmp 26) (.tmp 28) 30 rfl lo 54 im (.agg #[.int .i64 0, .int .i64 0, .int .i64 0, .int .i64 0, .int .i64 0, .int .i64 0, .int .i64 0, .bool false, .slice none 0 0]) 9 88 Try.underlying30 him him0 him1 him2 rfl (by decide) (.slice ao no co) no (cMs L) rfl (by have h := (unhide M5).row; rw [unhide HNO] at h; exact h) ⟨R, 0, none⟩ 1 1 [.int .i64 kd, .int .i64 id, .int .i64 dst, .int .i64 tm, .int .i64 ix, .int .i64 lt, .int .i64 cmm, .bool ok, .slice (some ⟨R0, 0, none⟩) 0 0] rfl rfl (by intro j u hj; have e := (unhide R5).S j; rw [show (⟨R, 0, none⟩ : Addr).add j = ⟨R, j, none⟩ from (by unfold Addr.add; split <;> simp_all)]; rw [e]; simpa using hj) (by rw [← unhide PC]; exact cM_one p) (by decide) (by unfold maxLen; omega) (by omega) (by have := (unhide T5).size; omega) _ rfl ?_
      intro g7 c7 w7 ho7 hg7 hat7 hlt7
      have P7 := hide ((unhide P5).grown hg7 (unhide OPo))
      have Q7 := hide ((unhide Q5).grown hg7 (unhide OQo))
      have M7 : Hid (MOwn w7 lo (.slice (some ⟨g7, 0, none⟩) (no + 1) c7) (L ++ [p])) := by
        have h := MOwn.snoc (w0 := w0) (p := p) (g := g7) (cap := c7) (unhide M5) (unhide LT) (unhide LV) (unhide E5) (unhide FE) hg7 (by rw [unhide HNO, unhide PC]; exact ho7) hat7
        rw [unhide HNO] at h
        exact h
      have T7 : Hid (Two P (Value.slice ao no co).ownBlock w w7) := Two.trans (Two.of_below (unhide T5)) (Two.of_grown hg7 (fun k _ e => .inr e)) (fun j _ e => e)
      have FR : Hid ((Value.slice ao no co).ownBlock = some g7 ∨ w.heap.size ≤ g7) := by
        rcases hat7 with h | h
        · exact .inl h
        · right; have := (unhide T5).size; omega
      clear ho7 hg7 hat7 hlt7 P5 Q5 M5 E5 T5 R5
      refine hK.out _ _ ?_ (fun hHeld7 => ?_)
      · exact (unhide Q7).S
      clear hK K
      try simp only [Act.put, qqA, qqB, qqC]
      refine wtk (i := 8) (oi := oSnS8) (v := ?_) rfl (Or.inl ⟨by rfl, ?_⟩) (by assumption) ?_
      rotate_left 1
      · (intro w' hSw; (try dsimp only at hSw); go_simp; try with_reducible rfl)
      try simp only [Act.put, qqA, qqB, qqC]
      refine wtk (i := 9) (oi := oSnS9) (v := ?_) rfl (Or.inl ⟨by rfl, ?_⟩) (by assumption) ?_
      rotate_left 1
      · (intro w' hSw; (try dsimp only at hSw); go_simp; try with_reducible rfl)
      try simp only [Act.put, qqA, qqB, qqC]
      refine wpAnyH_ready (rs := [10]) (by kernel_rfl) (by simp) ?_
      refine AllReadyH.cons (o := oSnS10) rfl (fun K hK => ?_) AllReadyH.nil
      have kp := (unhide P7).S
      have kpf := (unhide P7).F
      obtain ⟨w8, hw8⟩ : ∃ w8, w8 = w7.setCell ⟨P, 13, none⟩ (.slice (some ⟨g7, 0, none⟩) (no + 1) c7) := ⟨_, rfl⟩
      have P8 : BF P #[.int .i64 id, .int .i64 (nd : Int), .int .i64 tm, .int .i64 vt, .int .i64 ro, .bool up, .slice a n cap, .int .i64 (c : Int), .int .i64 el, .int .i64 wt, .slice av nv cv, .slice ax nx cx, .slice ag ng cg, .slice (some ⟨g7, 0, none⟩) (no + 1) c7] w8 := by rw [hw8]; exact (unhide P7).set 13 (by simp) _
      have hf8 : ∀ k, k ≠ P → w8.heap[k]? = w7.heap[k]? := fun k hk => by rw [hw8]; exact Below.heap_setCell _ _ _ _ hk
      have hs8 : w7.heap.size ≤ w8.heap.size := by rw [hw8]; simp
      have Q8 := (unhide Q7).keep hs8 (hf8 _ (by have := unhide hPQ; omega))
      have T8 : Two P (Value.slice ao no co).ownBlock w w8 := by rw [hw8]; exact (unhide T7).set
      have M8 : MOwn w8 lo (.slice (some ⟨g7, 0, none⟩) (no + 1) c7) (L ++ [p]) := by
        have hm := unhide M7
        refine ⟨own_farJ hm.row hf8 (fun h => ?_), fun x hx => own_farJ (hm.ent x hx) hf8 (fun h => unhide OPe x hx h), hm.apart, hm.off⟩
        have e : g7 = P := Option.some.inj h
        rcases unhide FR with h1 | h1
        · exact unhide OPo (by rw [h1, e])
        · have := unhide hPw; omega
      go_simp
      rw [← hw8]
      refine hK.out _ _ ?_ (fun hHeld10 => ?_)
      · exact Q8.S
      clear hK K
      try simp only [Act.put, qqA, qqB, qqC]
      refine wpAnyH_done (by kernel_rfl) ?_ _
      have FIN := hide (And.intro P8 (And.intro M8 T8))
      clear P8 M8 T8 Q8 hf8 hs8 hw8 kp kpf P7 Q7 M7 T7
      go_wp2_with fail
      go_end0
      obtain ⟨P8, M8, T8⟩ := unhide FIN
      exact ⟨g7, c7, p, rfl, P8, M8, unhide PM, T8, unhide FR, unhide OPe⟩
  · obtain ⟨w3, hw3⟩ : ∃ w3, w3 = w2 := ⟨_, rfl⟩
    have Q3 : Hid (BF Q #[.int .i64 kd, .int .i64 id, .int .i64 dst, .int .i64 tm, .int .i64 ix, .int .i64 lt, .int .i64 cmm, .bool ok, .slice ae ne ce] w3) := by rw [hw3]; exact HQ2
    have P3 : Hid (BF P #[.int .i64 id, .int .i64 (nd : Int), .int .i64 tm, .int .i64 vt, .int .i64 ro, .bool up, .slice a n cap, .int .i64 (c : Int), .int .i64 el, .int .i64 wt, .slice av nv cv, .slice ax nx cx, .slice ag ng cg, .slice ao no co] w3) := by rw [hw3]; exact HP2
    have T3 : Hid (Below w.heap.size w w3) := by rw [hw3]; exact HT2
    have M3 := hide ((unhide HM).below (unhide T3))
    have E3 := hide (((heldZ_of (unhide HEE)).below (unhide T3) (Nat.le_refl _)).own)
    have FE3 := HFE
    have nz : ((ne : Int) == 0) = false := by rw [beq_eq_false_iff_ne]; omega
    have q2 := (unhide HQ2).S
    go_upto_region 5 with fail
    rw [← hw3]
    clear q2 hw3 HP2 HQ2 HT2 HM HEE HFE nz
    obtain ⟨p, hp⟩ : ∃ p : MgA, p = (⟨kd, id, dst, tm, ix, lt, cmm, ok, es⟩, ae, ce) := ⟨_, rfl⟩
    have LEN : (es : List Ent).length = ne := unhide HNE
    have PC : Hid (cM p = [.int .i64 kd, .int .i64 id, .int .i64 dst, .int .i64 tm, .int .i64 ix, .int .i64 lt, .int .i64 cmm, .bool ok, .slice ae ne ce]) := by show _ = _; rw [hp]; simp only [cM, sl, LEN]
    have PM : Hid (p.1 = ⟨kd, id, dst, tm, ix, lt, cmm, ok, es⟩) := by show _ = _; rw [hp]
    have PS : sl p = .slice ae ne ce := by rw [hp]; simp only [sl, LEN]
    have PE : p.1.es = es := by rw [hp]
    have E4 : Hid (w3.drew.ownsRow lo 68 2 (sl p) p.1.es.length (cE p.1.es)) := by show World.ownsRow _ _ _ _ _ _ _; rw [PS, PE, LEN]; exact ((heldZ_of (unhide E3)).below (Below.refl _ _).drew (Nat.le_refl _)).own
    have FE : Hid (∀ j, (sl p).ownBlock = some j → w0.heap.size ≤ j) := fun j hj => by rw [PS] at hj; exact unhide FE3 j hj
    have OPe : Hid (∀ x ∈ L ++ [p], (sl x).ownBlock ≠ some P) := fun x hx e => by
      rcases List.mem_append.1 hx with hx | hx
      · exact unhide OPl x hx e
      · obtain rfl : x = p := by simpa using hx
        have := unhide FE P e; have := unhide hPw0; omega
    have P4 := hide (unhide P3).drew
    have Q4 := hide (unhide Q3).drew
    have M4 := hide ((unhide M3).below (Below.refl _ _).drew)
    have T4 := hide (unhide T3).drew
    have kq := (unhide Q3).S
    clear hp PS E3 P3 Q3 M3 T3 PE LEN FE3
    go_wp2_with fail
    refine wp_region_held_drew (S := fun w' => ∀ o, w'.cell? ⟨Q, o, none⟩ = (#[.int .i64 kd, .int .i64 id, .int .i64 dst, .int .i64 tm, .int .i64 ix, .int .i64 lt, .int .i64 cmm, .bool ok, .slice ae ne ce] : Array Value)[o]?) (by kernel_rfl) kq (fun hHeld => ?_)
    generalize w3.drew = w4 at P4 Q4 M4 E4 T4 hHeld ⊢
    refine wtk (i := 0) (oi := oSnS0) (v := ?_) rfl (Or.inl ⟨by rfl, ?_⟩) (by assumption) ?_
    rotate_left 1
    · (intro w' hSw; (try dsimp only at hSw); go_simp; try with_reducible rfl)
    try simp only [Act.put, qqA, qqB, qqC]
    refine wtk (i := 1) (oi := oSnS1) (v := ?_) rfl (Or.inl ⟨by rfl, ?_⟩) (by assumption) ?_
    rotate_left 1
    · (intro w' hSw; (try dsimp only at hSw); go_simp; try with_reducible rfl)
    try simp only [Act.put, qqA, qqB, qqC]
    refine wtk (i := 2) (oi := oSnS2) (v := ?_) rfl (Or.inl ⟨by rfl, ?_⟩) (by assumption) ?_
    rotate_left 1
    · (intro w' hSw; (try dsimp only at hSw); go_simp; try with_reducible rfl)
    try simp only [Act.put, qqA, qqB, qqC]
    refine wtk (i := 3) (oi := oSnS3) (v := ?_) rfl (Or.inl ⟨by rfl, ?_⟩) (by assumption) ?_
    rotate_left 1
    · (intro w' hSw; (try dsimp only at hSw); go_simp; try with_reducible rfl)
    try simp only [Act.put, qqA, qqB, qqC]
    refine wtk (i := 5) (oi := oSnS4) (v := ?_) rfl (Or.inl ⟨by rfl, ?_⟩) (by assumption) ?_
    rotate_left 1
    · (intro w' hSw; (try dsimp only at hSw); go_simp; try with_reducible rfl)
    try simp only [Act.put, qqA, qqB, qqC]
    refine wpAnyH_ready (rs := [4, 6]) (by kernel_rfl) (by simp) ?_
    refine AllReadyH.cons (o := oSnS5) rfl (fun K hK => ?_) (AllReadyH.cons (o := oSnS6) rfl (fun K hK => ?_) AllReadyH.nil)
    · skip
      have kp := (unhide P4).S
      go_simp
      refine hK.out _ _ ?_ (fun hHeldL => ?_)
      · exact hHeld
      clear hK K kp
      try simp only [Act.put, qqA, qqB, qqC]
      refine wpAnyH_ready (rs := [6]) (by kernel_rfl) (by simp) ?_
      refine AllReadyH.cons (o := oSnS6) rfl (fun K hK => ?_) AllReadyH.nil
      obtain ⟨R, hR⟩ : ∃ R, R = w4.heap.size := ⟨_, rfl⟩
      have hb5 : Below w4.heap.size w4 (w4.alloc (.cells #[.int .i64 kd, .int .i64 id, .int .i64 dst, .int .i64 tm, .int .i64 ix, .int .i64 lt, .int .i64 cmm, .bool ok, .slice ae ne ce] 54)) := Go.Joins.below_alloc1 w4 (.cells #[.int .i64 kd, .int .i64 id, .int .i64 dst, .int .i64 tm, .int .i64 ix, .int .i64 lt, .int .i64 cmm, .bool ok, .slice ae ne ce] 54)
      have R5 := hide (BF.new w4 #[.int .i64 kd, .int .i64 id, .int .i64 dst, .int .i64 tm, .int .i64 ix, .int .i64 lt, .int .i64 cmm, .bool ok, .slice ae ne ce] 54)
      have P5 := hide ((unhide P4).below hb5)
      have Q5 := hide ((unhide Q4).below hb5)
      have M5 := hide ((unhide M4).below hb5)
      have E5 := hide (((heldZ_of (unhide E4)).below hb5 (Nat.le_refl _)).own)
      have T5 := hide ((unhide T4).trans (hb5.mono (unhide T4).size))
      rw [← hR] at R5
      go_simp
      refine hK.out _ _ ?_ (fun hHeldB => ?_)
      · exact (unhide Q5).S
      clear hK K
      try simp only [Act.put, qqA, qqB, qqC]
      rw [← hR]
      have rl : Hid (w0s ≤ R) := by show _ ≤ _; rw [hR]; have := (unhide T4).size; omega
      clear hb5 hR
      generalize w4.alloc (.cells #[.int .i64 kd, .int .i64 id, .int .i64 dst, .int .i64 tm, .int .i64 ix, .int .i64 lt, .int .i64 cmm, .bool ok, .slice ae ne ce] 54) = w5 at R5 P5 Q5 M5 E5 T5 hHeldB ⊢
      refine wpAnyH_ready (rs := [7]) (by kernel_rfl) (by simp) ?_
      refine AllReadyH.cons (o := oSnS7) rfl (fun K hK => ?_) AllReadyH.nil
      refine step_append_lies w5 rfl (.tmp 26) (.tmp 28) 30 rfl lo 54 im (.agg #[.int .i64 0, .int .i64 0, .int .i64 0, .int .i64 0, .int .i64 0, .int .i64 0, .int .i64 0, .bool false, .slice none 0 0]) 9 88 Try.underlying30 him him0 him1 him2 rfl (by decide) (.slice ao no co) no (cMs L) rfl (by have h := (unhide M5).row; rw [unhide HNO] at h; exact h) ⟨R, 0, none⟩ 1 1 [.int .i64 kd, .int .i64 id, .int .i64 dst, .int .i64 tm, .int .i64 ix, .int .i64 lt, .int .i64 cmm, .bool ok, .slice ae ne ce] rfl rfl (by intro j u hj; have e := (unhide R5).S j; rw [show (⟨R, 0, none⟩ : Addr).add j = ⟨R, j, none⟩ from (by unfold Addr.add; split <;> simp_all)]; rw [e]; simpa using hj) (by rw [← unhide PC]; exact cM_one p) (by decide) (by unfold maxLen; omega) (by omega) (by have := (unhide T5).size; omega) _ rfl ?_
      intro g7 c7 w7 ho7 hg7 hat7 hlt7
      have P7 := hide ((unhide P5).grown hg7 (unhide OPo))
      have Q7 := hide ((unhide Q5).grown hg7 (unhide OQo))
      have M7 : Hid (MOwn w7 lo (.slice (some ⟨g7, 0, none⟩) (no + 1) c7) (L ++ [p])) := by
        have h := MOwn.snoc (w0 := w0) (p := p) (g := g7) (cap := c7) (unhide M5) (unhide LT) (unhide LV) (unhide E5) (unhide FE) hg7 (by rw [unhide HNO, unhide PC]; exact ho7) hat7
        rw [unhide HNO] at h
        exact h
      have T7 : Hid (Two P (Value.slice ao no co).ownBlock w w7) := Two.trans (Two.of_below (unhide T5)) (Two.of_grown hg7 (fun k _ e => .inr e)) (fun j _ e => e)
      have FR : Hid ((Value.slice ao no co).ownBlock = some g7 ∨ w.heap.size ≤ g7) := by
        rcases hat7 with h | h
        · exact .inl h
        · right; have := (unhide T5).size; omega
      clear ho7 hg7 hat7 hlt7 P5 Q5 M5 E5 T5 R5
      refine hK.out _ _ ?_ (fun hHeld7 => ?_)
      · exact (unhide Q7).S
      clear hK K
      try simp only [Act.put, qqA, qqB, qqC]
      refine wtk (i := 8) (oi := oSnS8) (v := ?_) rfl (Or.inl ⟨by rfl, ?_⟩) (by assumption) ?_
      rotate_left 1
      · (intro w' hSw; (try dsimp only at hSw); go_simp; try with_reducible rfl)
      try simp only [Act.put, qqA, qqB, qqC]
      refine wtk (i := 9) (oi := oSnS9) (v := ?_) rfl (Or.inl ⟨by rfl, ?_⟩) (by assumption) ?_
      rotate_left 1
      · (intro w' hSw; (try dsimp only at hSw); go_simp; try with_reducible rfl)
      try simp only [Act.put, qqA, qqB, qqC]
      refine wpAnyH_ready (rs := [10]) (by kernel_rfl) (by simp) ?_
      refine AllReadyH.cons (o := oSnS10) rfl (fun K hK => ?_) AllReadyH.nil
      have kp := (unhide P7).S
      have kpf := (unhide P7).F
      obtain ⟨w8, hw8⟩ : ∃ w8, w8 = w7.setCell ⟨P, 13, none⟩ (.slice (some ⟨g7, 0, none⟩) (no + 1) c7) := ⟨_, rfl⟩
      have P8 : BF P #[.int .i64 id, .int .i64 (nd : Int), .int .i64 tm, .int .i64 vt, .int .i64 ro, .bool up, .slice a n cap, .int .i64 (c : Int), .int .i64 el, .int .i64 wt, .slice av nv cv, .slice ax nx cx, .slice ag ng cg, .slice (some ⟨g7, 0, none⟩) (no + 1) c7] w8 := by rw [hw8]; exact (unhide P7).set 13 (by simp) _
      have hf8 : ∀ k, k ≠ P → w8.heap[k]? = w7.heap[k]? := fun k hk => by rw [hw8]; exact Below.heap_setCell _ _ _ _ hk
      have hs8 : w7.heap.size ≤ w8.heap.size := by rw [hw8]; simp
      have Q8 := (unhide Q7).keep hs8 (hf8 _ (by have := unhide hPQ; omega))
      have T8 : Two P (Value.slice ao no co).ownBlock w w8 := by rw [hw8]; exact (unhide T7).set
      have M8 : MOwn w8 lo (.slice (some ⟨g7, 0, none⟩) (no + 1) c7) (L ++ [p]) := by
        have hm := unhide M7
        refine ⟨own_farJ hm.row hf8 (fun h => ?_), fun x hx => own_farJ (hm.ent x hx) hf8 (fun h => unhide OPe x hx h), hm.apart, hm.off⟩
        have e : g7 = P := Option.some.inj h
        rcases unhide FR with h1 | h1
        · exact unhide OPo (by rw [h1, e])
        · have := unhide hPw; omega
      go_simp
      rw [← hw8]
      refine hK.out _ _ ?_ (fun hHeld10 => ?_)
      · exact Q8.S
      clear hK K
      try simp only [Act.put, qqA, qqB, qqC]
      refine wpAnyH_done (by kernel_rfl) ?_ _
      have FIN := hide (And.intro P8 (And.intro M8 T8))
      clear P8 M8 T8 Q8 hf8 hs8 hw8 kp kpf P7 Q7 M7 T7
      go_wp2_with fail
      go_end0
      obtain ⟨P8, M8, T8⟩ := unhide FIN
      exact ⟨g7, c7, p, rfl, P8, M8, unhide PM, T8, unhide FR, unhide OPe⟩
    · skip
      obtain ⟨R, hR⟩ : ∃ R, R = w4.heap.size := ⟨_, rfl⟩
      have hb5 : Below w4.heap.size w4 (w4.alloc (.cells #[.int .i64 kd, .int .i64 id, .int .i64 dst, .int .i64 tm, .int .i64 ix, .int .i64 lt, .int .i64 cmm, .bool ok, .slice ae ne ce] 54)) := Go.Joins.below_alloc1 w4 (.cells #[.int .i64 kd, .int .i64 id, .int .i64 dst, .int .i64 tm, .int .i64 ix, .int .i64 lt, .int .i64 cmm, .bool ok, .slice ae ne ce] 54)
      have R5 := hide (BF.new w4 #[.int .i64 kd, .int .i64 id, .int .i64 dst, .int .i64 tm, .int .i64 ix, .int .i64 lt, .int .i64 cmm, .bool ok, .slice ae ne ce] 54)
      have P5 := hide ((unhide P4).below hb5)
      have Q5 := hide ((unhide Q4).below hb5)
      have M5 := hide ((unhide M4).below hb5)
      have E5 := hide (((heldZ_of (unhide E4)).below hb5 (Nat.le_refl _)).own)
      have T5 := hide ((unhide T4).trans (hb5.mono (unhide T4).size))
      rw [← hR] at R5
      go_simp
      refine hK.out _ _ ?_ (fun hHeldB => ?_)
      · exact (unhide Q5).S
      clear hK K
      try simp only [Act.put, qqA, qqB, qqC]
      rw [← hR]
      have rl : Hid (w0s ≤ R) := by show _ ≤ _; rw [hR]; have := (unhide T4).size; omega
      clear hb5 hR
      generalize w4.alloc (.cells #[.int .i64 kd, .int .i64 id, .int .i64 dst, .int .i64 tm, .int .i64 ix, .int .i64 lt, .int .i64 cmm, .bool ok, .slice ae ne ce] 54) = w5 at R5 P5 Q5 M5 E5 T5 hHeldB ⊢
      refine wpAnyH_ready (rs := [4]) (by kernel_rfl) (by simp) ?_
      refine AllReadyH.cons (o := oSnS5) rfl (fun K hK => ?_) AllReadyH.nil
      have kp := (unhide P5).S
      go_simp
      refine hK.out _ _ ?_ (fun hHeldL => ?_)
      · exact (unhide Q5).S
      clear hK K kp
      try simp only [Act.put, qqA, qqB, qqC]
      refine wpAnyH_ready (rs := [7]) (by kernel_rfl) (by simp) ?_
      refine AllReadyH.cons (o := oSnS7) rfl (fun K hK => ?_) AllReadyH.nil
      refine step_append_lies w5 rfl (.tmp 26) (.tmp 28) 30 rfl lo 54 im (.agg #[.int .i64 0, .int .i64 0, .int .i64 0, .int .i64 0, .int .i64 0, .int .i64 0, .int .i64 0, .bool false, .slice none 0 0]) 9 88 Try.underlying30 him him0 him1 him2 rfl (by decide) (.slice ao no co) no (cMs L) rfl (by have h := (unhide M5).row; rw [unhide HNO] at h; exact h) ⟨R, 0, none⟩ 1 1 [.int .i64 kd, .int .i64 id, .int .i64 dst, .int .i64 tm, .int .i64 ix, .int .i64 lt, .int .i64 cmm, .bool ok, .slice ae ne ce] rfl rfl (by intro j u hj; have e := (unhide R5).S j; rw [show (⟨R, 0, none⟩ : Addr).add j = ⟨R, j, none⟩ from (by unfold Addr.add; split <;> simp_all)]; rw [e]; simpa using hj) (by rw [← unhide PC]; exact cM_one p) (by decide) (by unfold maxLen; omega) (by omega) (by have := (unhide T5).size; omega) _ rfl ?_
      intro g7 c7 w7 ho7 hg7 hat7 hlt7
      have P7 := hide ((unhide P5).grown hg7 (unhide OPo))
      have Q7 := hide ((unhide Q5).grown hg7 (unhide OQo))
      have M7 : Hid (MOwn w7 lo (.slice (some ⟨g7, 0, none⟩) (no + 1) c7) (L ++ [p])) := by
        have h := MOwn.snoc (w0 := w0) (p := p) (g := g7) (cap := c7) (unhide M5) (unhide LT) (unhide LV) (unhide E5) (unhide FE) hg7 (by rw [unhide HNO, unhide PC]; exact ho7) hat7
        rw [unhide HNO] at h
        exact h
      have T7 : Hid (Two P (Value.slice ao no co).ownBlock w w7) := Two.trans (Two.of_below (unhide T5)) (Two.of_grown hg7 (fun k _ e => .inr e)) (fun j _ e => e)
      have FR : Hid ((Value.slice ao no co).ownBlock = some g7 ∨ w.heap.size ≤ g7) := by
        rcases hat7 with h | h
        · exact .inl h
        · right; have := (unhide T5).size; omega
      clear ho7 hg7 hat7 hlt7 P5 Q5 M5 E5 T5 R5
      refine hK.out _ _ ?_ (fun hHeld7 => ?_)
      · exact (unhide Q7).S
      clear hK K
      try simp only [Act.put, qqA, qqB, qqC]
      refine wtk (i := 8) (oi := oSnS8) (v := ?_) rfl (Or.inl ⟨by rfl, ?_⟩) (by assumption) ?_
      rotate_left 1
      · (intro w' hSw; (try dsimp only at hSw); go_simp; try with_reducible rfl)
      try simp only [Act.put, qqA, qqB, qqC]
      refine wtk (i := 9) (oi := oSnS9) (v := ?_) rfl (Or.inl ⟨by rfl, ?_⟩) (by assumption) ?_
      rotate_left 1
      · (intro w' hSw; (try dsimp only at hSw); go_simp; try with_reducible rfl)
      try simp only [Act.put, qqA, qqB, qqC]
      refine wpAnyH_ready (rs := [10]) (by kernel_rfl) (by simp) ?_
      refine AllReadyH.cons (o := oSnS10) rfl (fun K hK => ?_) AllReadyH.nil
      have kp := (unhide P7).S
      have kpf := (unhide P7).F
      obtain ⟨w8, hw8⟩ : ∃ w8, w8 = w7.setCell ⟨P, 13, none⟩ (.slice (some ⟨g7, 0, none⟩) (no + 1) c7) := ⟨_, rfl⟩
      have P8 : BF P #[.int .i64 id, .int .i64 (nd : Int), .int .i64 tm, .int .i64 vt, .int .i64 ro, .bool up, .slice a n cap, .int .i64 (c : Int), .int .i64 el, .int .i64 wt, .slice av nv cv, .slice ax nx cx, .slice ag ng cg, .slice (some ⟨g7, 0, none⟩) (no + 1) c7] w8 := by rw [hw8]; exact (unhide P7).set 13 (by simp) _
      have hf8 : ∀ k, k ≠ P → w8.heap[k]? = w7.heap[k]? := fun k hk => by rw [hw8]; exact Below.heap_setCell _ _ _ _ hk
      have hs8 : w7.heap.size ≤ w8.heap.size := by rw [hw8]; simp
      have Q8 := (unhide Q7).keep hs8 (hf8 _ (by have := unhide hPQ; omega))
      have T8 : Two P (Value.slice ao no co).ownBlock w w8 := by rw [hw8]; exact (unhide T7).set
      have M8 : MOwn w8 lo (.slice (some ⟨g7, 0, none⟩) (no + 1) c7) (L ++ [p]) := by
        have hm := unhide M7
        refine ⟨own_farJ hm.row hf8 (fun h => ?_), fun x hx => own_farJ (hm.ent x hx) hf8 (fun h => unhide OPe x hx h), hm.apart, hm.off⟩
        have e : g7 = P := Option.some.inj h
        rcases unhide FR with h1 | h1
        · exact unhide OPo (by rw [h1, e])
        · have := unhide hPw; omega
      go_simp
      rw [← hw8]
      refine hK.out _ _ ?_ (fun hHeld10 => ?_)
      · exact Q8.S
      clear hK K
      try simp only [Act.put, qqA, qqB, qqC]
      refine wpAnyH_done (by kernel_rfl) ?_ _
      have FIN := hide (And.intro P8 (And.intro M8 T8))
      clear P8 M8 T8 Q8 hf8 hs8 hw8 kp kpf P7 Q7 M7 T7
      go_wp2_with fail
      go_end0
      obtain ⟨P8, M8, T8⟩ := unhide FIN
      exact ⟨g7, c7, p, rfl, P8, M8, unhide PM, T8, unhide FR, unhide OPe⟩
end Go.Proofs.Ytjlajpnhcphngaa
