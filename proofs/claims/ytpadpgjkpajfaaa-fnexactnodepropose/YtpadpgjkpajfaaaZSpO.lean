/- l08Propose that is taken: what the specification answers. -/
import Derived.Test.YtpadpgjkpajfaaaZSpL
namespace Go.Proofs.Ytpadpgjkpajfaaa
open Go.ChangeShapes Go.WideShapes Go.ChangeAt Go.RowKit
set_option linter.unusedVariables false
set_option maxHeartbeats 4000000 in
set_option maxRecDepth 100000 in
theorem spp_ok (id : Int) (nd : Nat) (tm vt : Int) (c : Nat) (el wt : Int) (a : Option Addr) (cap n : Nat) (l : List (Int × ByteArray)) (HN : Hid (l.length = n)) (av : Option Addr) (cv nv : Nat) (lv : List Int) (HNv : Hid (lv.length = nv)) (ax : Option Addr) (cx nx : Nat) (lx : List Int) (HNx : Hid (lx.length = nx)) (ag : Option Addr) (cg ng : Nat) (lg : List Int) (HNg : Hid (lg.length = ng)) (hn : n ≤ 1048576) (hnv : nv ≤ 1048576) (hnx : nx ≤ 1048576) (hng : ng ≤ 1048576) (d : ByteArray) (hn60 : n < 60) (hnd : nd ≤ 5) (hcn : c ≤ n) (J : Nat → Nat) (HJ : Hid (∀ t (h : t < lx.length), lx[t] = (J t : Int) + 1 ∧ J t ≤ n)) (hnn : Hid (nx = nd)) (hgg : Hid (ng = nd)) (HM : Hid (∀ k, k ≤ n + 1 → tAt (l ++ [(tm, d)]) k ≠ tm → ∀ j, 0 < j → j ≤ k → tAt (l ++ [(tm, d)]) j ≠ tm)) (w : World) (hr : RowV w a (cE l)) (hrv : RowV w av (cI lv)) (hrx : RowV w ax (cI lx)) (hrg : RowV w ag (cI lg)) :
    Calls Try.prog 18 #[.agg #[.int .i64 id, .int .i64 (nd : Int), .int .i64 tm, .int .i64 vt, .int .i64 2, .bool true, .slice a n cap, .int .i64 (c : Int), .int .i64 el, .int .i64 wt, .slice av nv cv, .slice ax nx cx, .slice ag ng cg], .string d] w fun e w' => ∃ eA eC vA vC xA xC gA gC vm L, e = .returned (.tuple #[.agg #[.int .i64 id, .int .i64 (nd : Int), .int .i64 tm, .int .i64 vt, .int .i64 2, .bool true, .slice eA (n + 1) eC, .int .i64 ((advN id tm nd (l ++ [(tm, d)]) lg c (n + 1) : Nat) : Int), .int .i64 el, .int .i64 wt, .slice vA nv vC, .slice xA nx xC, .slice gA ng gC], vm, .int .i64 0]) ∧ (RowV w' eA (cE (l ++ [(tm, d)])) ∧ RowV w' vA (cI lv) ∧ RowV w' xA (cI lx) ∧ RowV w' gA (cI lg)) ∧ L.map (·.1) = tls id tm ((advN id tm nd (l ++ [(tm, d)]) lg c (n + 1) : Nat) : Int) (l ++ [(tm, d)]) J nd ∧ MOwn w' w.heap.size vm L ∧ Below w.heap.size w w' := by
  obtain ⟨ie, hie, hie0, hie1, hie2⟩ := info_parts Try.infE49
  have B0 := hide (Go.Joins.below_alloc2 w (.cells #[.int .i64 id, .int .i64 (nd : Int), .int .i64 tm, .int .i64 vt, .int .i64 2, .bool true, .slice a n cap, .int .i64 (c : Int), .int .i64 el, .int .i64 wt, .slice av nv cv, .slice ax nx cx, .slice ag ng cg] 29) (.cells #[.int .i64 0, .int .i64 0, .int .i64 0, .int .i64 0, .int .i64 0, .bool false, .slice none 0 0, .int .i64 0, .int .i64 0, .int .i64 0, .slice none 0 0, .slice none 0 0, .slice none 0 0] 29))
  have A0 := hide ((BF.new w #[.int .i64 id, .int .i64 (nd : Int), .int .i64 tm, .int .i64 vt, .int .i64 2, .bool true, .slice a n cap, .int .i64 (c : Int), .int .i64 el, .int .i64 wt, .slice av nv cv, .slice ax nx cx, .slice ag ng cg] 29).alloc (.cells #[.int .i64 0, .int .i64 0, .int .i64 0, .int .i64 0, .int .i64 0, .bool false, .slice none 0 0, .int .i64 0, .int .i64 0, .int .i64 0, .slice none 0 0, .slice none 0 0, .slice none 0 0] 29))
  have Z0 := hide (BF.new (w.alloc (.cells #[.int .i64 id, .int .i64 (nd : Int), .int .i64 tm, .int .i64 vt, .int .i64 2, .bool true, .slice a n cap, .int .i64 (c : Int), .int .i64 el, .int .i64 wt, .slice av nv cv, .slice ax nx cx, .slice ag ng cg] 29)) #[.int .i64 0, .int .i64 0, .int .i64 0, .int .i64 0, .int .i64 0, .bool false, .slice none 0 0, .int .i64 0, .int .i64 0, .int .i64 0, .slice none 0 0, .slice none 0 0, .slice none 0 0] 29)
  simp only [World.size_alloc] at Z0
  have n60 : ((n : Int) == 60) = false := by rw [beq_eq_false_iff_ne]; omega
  have ka := (unhide A0).S
  have T := hide (sownN id (nd : Int) tm vt 2 (c : Int) el wt true a cap n l HN av cv nv lv HNv ax cx nx lx HNx ag cg ng lg HNg hn hnv hnx hng ((w.alloc (.cells #[.int .i64 id, .int .i64 (nd : Int), .int .i64 tm, .int .i64 vt, .int .i64 2, .bool true, .slice a n cap, .int .i64 (c : Int), .int .i64 el, .int .i64 wt, .slice av nv cv, .slice ax nx cx, .slice ag ng cg] 29)).alloc (.cells #[.int .i64 0, .int .i64 0, .int .i64 0, .int .i64 0, .int .i64 0, .bool false, .slice none 0 0, .int .i64 0, .int .i64 0, .int .i64 0, .slice none 0 0, .slice none 0 0, .slice none 0 0] 29)) (hr.below (unhide B0)) (hrv.below (unhide B0)) (hrx.below (unhide B0)) (hrg.below (unhide B0)))
  clear hr hrv hrx hrg
  go_enter Try.func18, Try.ntmps18
  go_wp2_with fail
  refine (unhide T).mono ?_
  clear T
  rintro e w3 ⟨eA, eC, vA, vC, xA, xC, gA, gC, rfl, he, hv, hx, hg, hb3⟩
  simp only [World.size_alloc] at he hv hx hg
  obtain ⟨g0, hg0⟩ : ∃ q, q = w3.heap.size := ⟨_, rfl⟩
  obtain ⟨P, hP⟩ : ∃ q, q = g0 + 1 := ⟨_, rfl⟩
  have sz3 : w.heap.size + 2 ≤ w3.heap.size := by have := hb3.size; simp only [World.size_alloc] at this; omega
  obtain ⟨w4, hw4⟩ : ∃ w4, w4 = (w3.alloc (.cells #[] 55)).alloc (.cells #[.int .i64 id, .int .i64 (nd : Int), .int .i64 tm, .int .i64 vt, .int .i64 2, .bool true, .slice eA n eC, .int .i64 (c : Int), .int .i64 el, .int .i64 wt, .slice vA nv vC, .slice xA nx xC, .slice gA ng gC, .slice (some ⟨g0, 0, none⟩) 0 0] 66) := ⟨_, rfl⟩
  have hb4 : Below w3.heap.size w3 w4 := by rw [hw4]; exact Go.Joins.below_alloc2 w3 _ _
  have hs4 : w4.heap.size = P + 1 := by rw [hw4]; simp only [World.size_alloc]; omega
  have P4 : Hid (BF P #[.int .i64 id, .int .i64 (nd : Int), .int .i64 tm, .int .i64 vt, .int .i64 2, .bool true, .slice eA n eC, .int .i64 (c : Int), .int .i64 el, .int .i64 wt, .slice vA nv vC, .slice xA nx xC, .slice gA ng gC, .slice (some ⟨g0, 0, none⟩) 0 0] w4) := by have h := BF.new (w3.alloc (.cells #[] 55)) #[.int .i64 id, .int .i64 (nd : Int), .int .i64 tm, .int .i64 vt, .int .i64 2, .bool true, .slice eA n eC, .int .i64 (c : Int), .int .i64 el, .int .i64 wt, .slice vA nv vC, .slice xA nx xC, .slice gA ng gC, .slice (some ⟨g0, 0, none⟩) 0 0] 66; rw [World.size_alloc, ← hg0, ← hP] at h; rw [hw4]; exact h
  have A4 := hide (((unhide A0).below hb3).below hb4)
  have Z4 := hide (((unhide Z0).below hb3).below hb4)
  have M4 : Hid (MOwn w4 (w.heap.size + 2) (.slice (some ⟨g0, 0, none⟩) 0 0) []) := by have h := (MOwn.lit w3 (w.heap.size + 2) sz3).below (Go.Joins.below_alloc1 _ (.cells #[.int .i64 id, .int .i64 (nd : Int), .int .i64 tm, .int .i64 vt, .int .i64 2, .bool true, .slice eA n eC, .int .i64 (c : Int), .int .i64 el, .int .i64 wt, .slice vA nv vC, .slice xA nx xC, .slice gA ng gC, .slice (some ⟨g0, 0, none⟩) 0 0] 66)); rw [← hw4, ← hg0] at h; exact h
  have hbw : Below w.heap.size w w4 := ((unhide B0).trans (hb3.mono (unhide B0).size)).trans (hb4.mono (by omega))
  have B4 := hide hbw
  have E4 := hide (((heldZ_of he).below hb4 (Nat.le_refl _)).own)
  have V4 := hide (((heldZ_of hv).below hb4 (Nat.le_refl _)).own)
  have X4 := hide (((heldZ_of hx).below hb4 (Nat.le_refl _)).own)
  have G4 := hide (((heldZ_of hg).below hb4 (Nat.le_refl _)).own)
  have LP : Hid (w.heap.size + 2 ≤ g0 ∧ g0 < P) := by show _ ∧ _; omega
  have EL : Hid (∀ j, (Value.slice eA n eC).ownBlock = some j → w.heap.size + 2 ≤ j ∧ j < g0) := fun j hj => by have := he.lt j hj; omega
  have VL : Hid (∀ j, (Value.slice vA nv vC).ownBlock = some j → w.heap.size + 2 ≤ j ∧ j < g0) := fun j hj => by have := hv.lt j hj; omega
  have XL : Hid (∀ j, (Value.slice xA nx xC).ownBlock = some j → w.heap.size + 2 ≤ j ∧ j < g0) := fun j hj => by have := hx.lt j hj; omega
  have GL : Hid (∀ j, (Value.slice gA ng gC).ownBlock = some j → w.heap.size + 2 ≤ j ∧ j < g0) := fun j hj => by have := hg.lt j hj; omega
  have VN : Hid (∀ j, (Value.slice vA nv vC).ownBlock = some j → (Value.slice eA n eC).ownBlock ≠ some j) := own_apartS hv he (by decide)
  have XN : Hid (∀ j, (Value.slice xA nx xC).ownBlock = some j → (Value.slice eA n eC).ownBlock ≠ some j) := own_apartS hx he (by decide)
  have GN : Hid (∀ j, (Value.slice gA ng gC).ownBlock = some j → (Value.slice eA n eC).ownBlock ≠ some j) := own_apartS hg he (by decide)
  have HW4 := hide hw4
  have HG0 := hide hg0
  have HPP := hide hP
  clear he hv hx hg hb3 hb4 hw4 hg0 hP hs4 B0 A0 Z0 ka sz3 hbw
  go_upto_region 8 with fail
  rw [← unhide HG0, ← unhide HPP, ← unhide HW4]
  clear HW4
  have HN2 : Hid ((l ++ [(tm, d)]).length = n + 1) := by show _ = _; rw [List.length_append, unhide HN]; rfl
  have T5 : Hid (Two P (Value.slice eA n eC).ownBlock w4 w4.drew) := Two.of_below (Below.refl _ _).drew
  have P5 := hide (unhide P4).drew
  have A5 := hide (unhide A4).drew
  have E5 := hide ((heldZ_of (unhide E4)).below (Below.refl _ _).drew (Nat.le_refl _)).own
  have ka4 := (unhide A4).S
  go_wp2_with fail
  refine wp_region_held_drew (S := fun w' => ∀ o, w'.cell? ⟨w.heap.size, o, none⟩ = (#[.int .i64 id, .int .i64 (nd : Int), .int .i64 tm, .int .i64 vt, .int .i64 2, .bool true, .slice a n cap, .int .i64 (c : Int), .int .i64 el, .int .i64 wt, .slice av nv cv, .slice ax nx cx, .slice ag ng cg] : Array Value)[o]?) (by kernel_rfl) ka4 (fun hHeld => ?_)
  generalize w4.drew = w5 at T5 P5 A5 E5 hHeld ⊢
  refine wpAnyH_take (i := 0) (oi := { dst := some 32, op := .move (.tmp 7), type := 64, pos := "l08_raft.go:314", after := #[], guard := none }) (v := ?_) rfl (by kernel_rfl) (by kernel_rfl) (by kernel_rfl) (fun _ _ _ h => h) (Or.inl ⟨by rfl, ?_⟩) (by assumption) ?_
  rotate_left 1
  · (intro w' hSw; (try dsimp only at hSw); go_simp; try with_reducible rfl)
  try simp only [Act.put, qqA, qqB, qqC]
  refine wpAnyH_take (i := 1) (oi := { dst := some 33, op := .move (.tmp 7), type := 64, pos := "l08_raft.go:314", after := #[], guard := none }) (v := ?_) rfl (by kernel_rfl) (by kernel_rfl) (by kernel_rfl) (fun _ _ _ h => h) (Or.inl ⟨by rfl, ?_⟩) (by assumption) ?_
  rotate_left 1
  · (intro w' hSw; (try dsimp only at hSw); go_simp; try with_reducible rfl)
  try simp only [Act.put, qqA, qqB, qqC]
  refine wpAnyH_take (i := 2) (oi := { dst := some 34, op := .nilCheck (.tmp 33), type := 0, pos := "l08_raft.go:314", after := #[{ on := 1, ground := .data }], guard := none }) (v := ?_) rfl (by kernel_rfl) (by kernel_rfl) (by kernel_rfl) (fun _ _ _ h => h) (Or.inl ⟨by rfl, ?_⟩) (by assumption) ?_
  rotate_left 1
  · (intro w' hSw; (try dsimp only at hSw); go_simp; try with_reducible rfl)
  try simp only [Act.put, qqA, qqB, qqC]
  refine wpAnyH_take (i := 3) (oi := { dst := some 35, op := .fieldAddr 66 (.tmp 34) 0, type := 0, pos := "l08_raft.go:314", after := #[{ on := 2, ground := .data }], guard := none }) (v := ?_) rfl (by kernel_rfl) (by kernel_rfl) (by kernel_rfl) (fun _ _ _ h => h) (Or.inl ⟨by rfl, ?_⟩) (by assumption) ?_
  rotate_left 1
  · (intro w' hSw; (try dsimp only at hSw); go_simp; try with_reducible rfl)
  try simp only [Act.put, qqA, qqB, qqC]
  refine wpAnyH_take (i := 4) (oi := { dst := some 36, op := .fieldAddr 29 (.tmp 35) 6, type := 0, pos := "l08_raft.go:314", after := #[{ on := 3, ground := .data }], guard := none }) (v := ?_) rfl (by kernel_rfl) (by kernel_rfl) (by kernel_rfl) (fun _ _ _ h => h) (Or.inl ⟨by rfl, ?_⟩) (by assumption) ?_
  rotate_left 1
  · (intro w' hSw; (try dsimp only at hSw); go_simp; try with_reducible rfl)
  try simp only [Act.put, qqA, qqB, qqC]
  refine wpAnyH_take (i := 6) (oi := { dst := some 38, op := .fieldAddr 29 (.tmp 2) 2, type := 0, pos := "l08_raft.go:314", after := #[], guard := none }) (v := ?_) rfl (by kernel_rfl) (by kernel_rfl) (by kernel_rfl) (fun _ _ _ h => h) (Or.inl ⟨by rfl, ?_⟩) (by assumption) ?_
  rotate_left 1
  · (intro w' hSw; (try dsimp only at hSw); go_simp; try with_reducible rfl)
  try simp only [Act.put, qqA, qqB, qqC]
  refine wpAnyH_take (i := 7) (oi := { dst := some 39, op := .load 3 (.tmp 38), type := 3, pos := "l08_raft.go:314", after := #[{ on := 6, ground := .data }], guard := none }) (v := ?_) rfl (by kernel_rfl) (by kernel_rfl) (by kernel_rfl) (fun _ _ _ h => h) (Or.inl ⟨by rfl, ?_⟩) (by assumption) ?_
  rotate_left 1
  · (intro w' hSw; (try dsimp only at hSw); go_simp; try with_reducible rfl)
  try simp only [Act.put, qqA, qqB, qqC]
  refine wpAnyH_take (i := 8) (oi := { dst := some 40, op := .move (.tmp 1), type := 9, pos := "l08_raft.go:314", after := #[], guard := none }) (v := ?_) rfl (by kernel_rfl) (by kernel_rfl) (by kernel_rfl) (fun _ _ _ h => h) (Or.inl ⟨by rfl, ?_⟩) (by assumption) ?_
  rotate_left 1
  · (intro w' hSw; (try dsimp only at hSw); go_simp; try with_reducible rfl)
  try simp only [Act.put, qqA, qqB, qqC]
  refine wpAnyH_take (i := 9) (oi := { dst := some 41, op := .build 49 #[(0, .tmp 39), (1, .tmp 40)], type := 49, pos := "l08_raft.go:314", after := #[{ on := 7, ground := .data }, { on := 8, ground := .data }], guard := none }) (v := ?_) rfl (by kernel_rfl) (by kernel_rfl) (by kernel_rfl) (fun _ _ _ h => h) (Or.inl ⟨by rfl, ?_⟩) (by assumption) ?_
  rotate_left 1
  · (intro w' hSw; (try dsimp only at hSw); go_simp; try with_reducible rfl)
  try simp only [Act.put, qqA, qqB, qqC]
  refine wpAnyH_ready (rs := [5, 10]) (by kernel_rfl) (by simp) ?_
  refine AllReadyH.cons (o := { dst := some 37, op := .load 27 (.tmp 36), type := 27, pos := "l08_raft.go:314", after := #[{ on := 4, ground := .data }], guard := none }) rfl (fun K hK => ?_) (AllReadyH.cons (o := { dst := some 42, op := .buildSlice 27 1 #[(0, .tmp 41)], type := 27, pos := "l08_raft.go:314", after := #[{ on := 9, ground := .data }], guard := none }) rfl (fun K hK => ?_) AllReadyH.nil)
  · skip
    have kp := (unhide P5).S
    go_simp
    refine hK.out _ _ ?_ (fun hHeldL => ?_)
    · exact (unhide A5).S
    clear hK K kp
    try simp only [Act.put, qqA, qqB, qqC]
    refine wpAnyH_ready (rs := [10]) (by kernel_rfl) (by simp) ?_
    refine AllReadyH.cons (o := { dst := some 42, op := .buildSlice 27 1 #[(0, .tmp 41)], type := 27, pos := "l08_raft.go:314", after := #[{ on := 9, ground := .data }], guard := none }) rfl (fun K hK => ?_) AllReadyH.nil
    obtain ⟨G, hG⟩ : ∃ G, G = w5.heap.size := ⟨_, rfl⟩
    have hb6 : Below w5.heap.size w5 (w5.alloc (.cells #[.int .i64 tm, .string d] 49)) := Go.Joins.below_alloc1 w5 (.cells #[.int .i64 tm, .string d] 49)
    have R6 := hide (BF.new w5 #[.int .i64 tm, .string d] 49)
    have P6 := hide ((unhide P5).below hb6)
    have A6 := hide ((unhide A5).below hb6)
    have E6 := hide (((heldZ_of (unhide E5)).below hb6 (Nat.le_refl _)).own)
    have T6 : Hid (Two P (Value.slice eA n eC).ownBlock w4 (w5.alloc (.cells #[.int .i64 tm, .string d] 49))) := (unhide T5).trans (Two.of_below hb6) (fun j _ e => e)
    have z6 : Hid (P < (w5.alloc (.cells #[.int .i64 tm, .string d] 49)).heap.size) := (unhide P6).lt
    rw [← hG] at R6
    go_simp
    refine hK.out _ _ ?_ (fun hHeldB => ?_)
    · exact (unhide A6).S
    clear hK K
    try simp only [Act.put, qqA, qqB, qqC]
    rw [← hG]
    clear hb6 hG
    generalize w5.alloc (.cells #[.int .i64 tm, .string d] 49) = w6 at R6 P6 A6 E6 T6 z6 hHeldB ⊢
    refine wpAnyH_ready (rs := [11]) (by kernel_rfl) (by simp) ?_
    refine AllReadyH.cons (o := { dst := some 43, op := .call { callee := .builtin Go.Builtin.append, args := #[.tmp 37, .tmp 42], argTypes := #[27, 27] }, type := 27, pos := "l08_raft.go:314", after := #[{ on := 5, ground := .data }, { on := 10, ground := .data }], guard := none }) rfl (fun K hK => ?_) AllReadyH.nil
    refine step_append_lies w6 rfl (.tmp 37) (.tmp 42) 27 rfl (w.heap.size + 2) 49 ie (.agg #[.int .i64 0, .string ⟨#[]⟩]) 2 24 Try.underlying27 hie hie0 hie1 hie2 rfl (by decide) (.slice eA n eC) n (cE l) rfl (unhide E6) ⟨G, 0, none⟩ 1 1 [.int .i64 tm, .string d] rfl rfl (by intro j u hj; have e := (unhide R6).S j; rw [show (⟨G, 0, none⟩ : Addr).add j = ⟨G, j, none⟩ from (by unfold Addr.add; split <;> simp_all)]; rw [e]; simpa using hj) (by intro u hu; simp at hu; rcases hu with rfl | rfl <;> rfl) (by decide) (by unfold maxLen; omega) (by omega) (by have := unhide z6; have := unhide LP; omega) _ rfl ?_
    intro g7 c7 w7 ho7 hg7 hat7 hlt7
    have P7 := hide ((unhide P6).grown hg7 (fun h => by have := unhide EL _ h; have := unhide LP; omega))
    have A7 := hide ((unhide A6).grown hg7 (fun h => by have := (unhide EL) _ h; omega))
    have T7 : Hid (Two P (Value.slice eA n eC).ownBlock w4 w7) := (unhide T6).trans (Two.of_grown hg7 (fun k _ e => .inr e)) (fun j _ e => e)
    have F7 : Hid (w.heap.size + 2 ≤ g7 ∧ g7 ≠ P ∧ g7 ≠ g0) := by
      show _ ∧ _
      rcases hat7 with h | h
      · have := unhide EL _ h; have := unhide LP; omega
      · have := unhide z6; have := unhide LP; omega
    have cc7 : n + 1 ≤ c7 := by
      rcases ho7.2 with ⟨hx0, _⟩ | ⟨gq, cq, cur, hvq, _, _, hnc, _⟩
      · cases hx0
      · injection hvq with _ _ e3; rw [e3]; exact hnc
    have E7 : Hid (w7.ownsRow (w.heap.size + 2) 49 2 (.slice (some ⟨g7, 0, none⟩) (n + 1) c7) (n + 1) (cE (l ++ [(tm, d)]))) := by show World.ownsRow _ _ _ _ _ _ _; rw [cE_app]; exact ho7
    clear ho7 hg7 hat7 hlt7 P6 A6 E6 T6 R6 z6
    refine hK.out _ _ ?_ (fun hHeld11 => ?_)
    · exact (unhide A7).S
    clear hK K
    try simp only [Act.put, qqA, qqB, qqC]
    refine wpAnyH_take (i := 12) (oi := { dst := some 44, op := .nilCheck (.tmp 32), type := 0, pos := "l08_raft.go:314", after := #[{ on := 0, ground := .data }, { on := 0, ground := .phase }, { on := 1, ground := .phase }, { on := 2, ground := .phase }, { on := 3, ground := .phase }, { on := 4, ground := .phase }, { on := 5, ground := .phase }, { on := 6, ground := .phase }, { on := 7, ground := .phase }, { on := 8, ground := .phase }, { on := 9, ground := .phase }, { on := 10, ground := .phase }, { on := 11, ground := .phase }], guard := none }) (v := ?_) rfl (by kernel_rfl) (by kernel_rfl) (by kernel_rfl) (fun _ _ _ h => h) (Or.inl ⟨by rfl, ?_⟩) (by assumption) ?_
    rotate_left 1
    · (intro w' hSw; (try dsimp only at hSw); go_simp; try with_reducible rfl)
    try simp only [Act.put, qqA, qqB, qqC]
    refine wpAnyH_take (i := 13) (oi := { dst := some 45, op := .fieldAddr 66 (.tmp 44) 0, type := 0, pos := "l08_raft.go:314", after := #[{ on := 12, ground := .data }, { on := 0, ground := .phase }, { on := 1, ground := .phase }, { on := 2, ground := .phase }, { on := 3, ground := .phase }, { on := 4, ground := .phase }, { on := 5, ground := .phase }, { on := 6, ground := .phase }, { on := 7, ground := .phase }, { on := 8, ground := .phase }, { on := 9, ground := .phase }, { on := 10, ground := .phase }, { on := 11, ground := .phase }], guard := none }) (v := ?_) rfl (by kernel_rfl) (by kernel_rfl) (by kernel_rfl) (fun _ _ _ h => h) (Or.inl ⟨by rfl, ?_⟩) (by assumption) ?_
    rotate_left 1
    · (intro w' hSw; (try dsimp only at hSw); go_simp; try with_reducible rfl)
    try simp only [Act.put, qqA, qqB, qqC]
    refine wpAnyH_take (i := 14) (oi := { dst := some 46, op := .fieldAddr 29 (.tmp 45) 6, type := 0, pos := "l08_raft.go:314", after := #[{ on := 13, ground := .data }, { on := 0, ground := .phase }, { on := 1, ground := .phase }, { on := 2, ground := .phase }, { on := 3, ground := .phase }, { on := 4, ground := .phase }, { on := 5, ground := .phase }, { on := 6, ground := .phase }, { on := 7, ground := .phase }, { on := 8, ground := .phase }, { on := 9, ground := .phase }, { on := 10, ground := .phase }, { on := 11, ground := .phase }], guard := none }) (v := ?_) rfl (by kernel_rfl) (by kernel_rfl) (by kernel_rfl) (fun _ _ _ h => h) (Or.inl ⟨by rfl, ?_⟩) (by assumption) ?_
    rotate_left 1
    · (intro w' hSw; (try dsimp only at hSw); go_simp; try with_reducible rfl)
    try simp only [Act.put, qqA, qqB, qqC]
    refine wpAnyH_ready (rs := [15]) (by kernel_rfl) (by simp) ?_
    refine AllReadyH.cons (o := { dst := none, op := .store 27 (.tmp 46) (.tmp 43), type := 0, pos := "l08_raft.go:314", after := #[{ on := 14, ground := .data }, { on := 11, ground := .data }, { on := 11, ground := .chain }, { on := 0, ground := .phase }, { on := 1, ground := .phase }, { on := 2, ground := .phase }, { on := 3, ground := .phase }, { on := 4, ground := .phase }, { on := 5, ground := .phase }, { on := 6, ground := .phase }, { on := 7, ground := .phase }, { on := 8, ground := .phase }, { on := 9, ground := .phase }, { on := 10, ground := .phase }, { on := 11, ground := .phase }], guard := none }) rfl (fun K hK => ?_) AllReadyH.nil
    have kp := (unhide P7).S
    have kpf := (unhide P7).F
    obtain ⟨w8, hw8⟩ : ∃ w8, w8 = w7.setCell ⟨P, 6, none⟩ (.slice (some ⟨g7, 0, none⟩) (n + 1) c7) := ⟨_, rfl⟩
    have P8 : Hid (BF P #[.int .i64 id, .int .i64 (nd : Int), .int .i64 tm, .int .i64 vt, .int .i64 2, .bool true, .slice (some ⟨g7, 0, none⟩) (n + 1) c7, .int .i64 (c : Int), .int .i64 el, .int .i64 wt, .slice vA nv vC, .slice xA nx xC, .slice gA ng gC, .slice (some ⟨g0, 0, none⟩) 0 0] w8) := by rw [hw8]; exact (unhide P7).set 6 (by simp) _
    have hf8 : ∀ k, k ≠ P → w8.heap[k]? = w7.heap[k]? := fun k hk => by rw [hw8]; exact Below.heap_setCell _ _ _ _ hk
    have hs8 : w7.heap.size ≤ w8.heap.size := by rw [hw8]; simp
    have A8 := (unhide A7).keep hs8 (hf8 _ (by have := unhide LP; omega))
    have T8 : Hid (Two P (Value.slice eA n eC).ownBlock w4 w8) := by rw [hw8]; exact (unhide T7).set
    have E8 := hide (own_keepB (unhide E7) (hf8 g7 (unhide F7).2.1))
    go_simp
    rw [← hw8]
    refine hK.out _ _ ?_ (fun hHeld15 => ?_)
    · exact A8.S
    clear hK K
    try simp only [Act.put, qqA, qqB, qqC]
    refine wpAnyH_done (by kernel_rfl) ?_ _
    clear kp kpf hw8 hf8 hs8 A8 P7 A7 T7 E7 hHeld
    have M8 : Hid (MOwn w8 (w.heap.size + 2) (.slice (some ⟨g0, 0, none⟩) 0 0) []) := ⟨own_keepB (unhide M4).row ((unhide T8).block g0 (by have := (unhide P4).lt; have := unhide LP; omega) (by have := unhide LP; omega) (fun e => by have := unhide EL _ e; omega)), (fun p hp => by cases hp), List.Pairwise.nil, (fun p hp => by cases hp)⟩
    have B8 : Hid (Below w.heap.size w w8) := below_two (unhide B4) (unhide T8) (unhide B4).size (by have := unhide LP; omega) (fun j hj => by have := unhide EL _ hj; omega)
    have Z8 := hide ((unhide Z4).keep (unhide T8).size ((unhide T8).block _ (unhide Z4).lt (by have := unhide LP; omega) (fun e => by have := unhide EL _ e; omega)))
    have OV : OffA P (Value.slice eA n eC).ownBlock vA := offA_own (unhide V4) (fun j hj => ⟨by have := unhide VL j hj; have := unhide LP; omega, unhide VN j hj⟩)
    have OX : OffA P (Value.slice eA n eC).ownBlock xA := offA_own (unhide X4) (fun j hj => ⟨by have := unhide XL j hj; have := unhide LP; omega, unhide XN j hj⟩)
    have OG : OffA P (Value.slice eA n eC).ownBlock gA := offA_own (unhide G4) (fun j hj => ⟨by have := unhide GL j hj; have := unhide LP; omega, unhide GN j hj⟩)
    have V8 := hide ((rowZ_at (unhide V4)).two (unhide T8) OV)
    have X8 := hide ((rowZ_at (unhide X4)).two (unhide T8) OX)
    have G8 := hide ((rowZ_at (unhide G4)).two (unhide T8) OG)
    have OV2 : Hid (OffA P (some g0) vA ∧ OffA (w.heap.size + 1) none vA) := ⟨offA_own (unhide V4) (fun j hj => ⟨by have := unhide VL j hj; have := unhide LP; omega, fun e => by have := unhide VL j hj; injection e with e; omega⟩), offA_own (unhide V4) (fun j hj => ⟨by have := unhide VL j hj; omega, fun e => by cases e⟩)⟩
    have OX2 : Hid (OffA P (some g0) xA ∧ OffA (w.heap.size + 1) none xA) := ⟨offA_own (unhide X4) (fun j hj => ⟨by have := unhide XL j hj; have := unhide LP; omega, fun e => by have := unhide XL j hj; injection e with e; omega⟩), offA_own (unhide X4) (fun j hj => ⟨by have := unhide XL j hj; omega, fun e => by cases e⟩)⟩
    have OG2 : Hid (OffA P (some g0) gA ∧ OffA (w.heap.size + 1) none gA) := ⟨offA_own (unhide G4) (fun j hj => ⟨by have := unhide GL j hj; have := unhide LP; omega, fun e => by have := unhide GL j hj; injection e with e; omega⟩), offA_own (unhide G4) (fun j hj => ⟨by have := unhide GL j hj; omega, fun e => by cases e⟩)⟩
    have OE2 : Hid (OffA P (some g0) (some ⟨g7, 0, none⟩) ∧ OffA (w.heap.size + 1) none (some ⟨g7, 0, none⟩)) := ⟨fun x hx => by injection hx with hx; subst hx; have := unhide F7; exact ⟨this.2.1, fun e => this.2.2 (Option.some.inj e).symm⟩, fun x hx => by injection hx with hx; subst hx; have := unhide F7; exact ⟨by show g7 ≠ _; omega, fun e => by cases e⟩⟩
    have GP : Hid (g0 ≠ P ∧ w.heap.size + 1 < g0) := by show _ ∧ _; have := unhide LP; omega
    have LPZ := hide (show w.heap.size + 2 ≤ P by have := unhide LP; omega)
    clear OV OX OG T8 M4 B4 Z4 V4 X4 G4 E4 P4 A4 VL XL GL VN XN GN EL
    go_wp2_with fail
    refine (sadvance P id nd tm vt 2 c el wt true (some ⟨g7, 0, none⟩) c7 (n + 1) vA vC nv xA xC nx gA gC ng (.slice (some ⟨g0, 0, none⟩) 0 0) (l ++ [(tm, d)]) HN2 (by omega) lg HNg hgg hnd (by omega) HM w8 (unhide P8) (rowZ_at (unhide E8)) (unhide G8)).mono ?_
    rintro e w9 ⟨rfl, hP9, hg9⟩
    obtain ⟨CN, hCN⟩ : ∃ CN : Nat, CN = advN id tm nd (l ++ [(tm, d)]) lg c (n + 1) := ⟨_, rfl⟩
    rw [← hCN] at hP9
    have HCN := hide hCN
    have t9 : Two P (some g0) w8 w9 := Two.of_grown hg9 (fun k _ e => .inl (Option.some.inj e).symm)
    have P9 := hide hP9
    have M9' : Hid (MOwn w9 (w.heap.size + 2) (.slice (some ⟨g0, 0, none⟩) 0 0) []) := ⟨own_keepB (unhide M8).row (hg9.block g0 ((unhide M8).row.lt g0 rfl).2 (fun e => (unhide GP).1 (Option.some.inj e))), (fun p hp => by cases hp), List.Pairwise.nil, (fun p hp => by cases hp)⟩
    have B9 := hide (below_two (unhide B8) t9 (unhide B8).size (by have := unhide LPZ; omega) (fun j hj => by injection hj with hj; have := unhide GP; omega))
    have Z9 := hide ((unhide Z8).keep t9.size (t9.block _ (unhide Z8).lt (by have := unhide LPZ; omega) (fun e => by injection e with e; have := unhide GP; omega)))
    have E9 := hide ((rowZ_at (unhide E8)).two t9 (unhide OE2).1)
    have V9 := hide ((unhide V8).two t9 (unhide OV2).1)
    have X9 := hide ((unhide X8).two t9 (unhide OX2).1)
    have G9 := hide ((unhide G8).two t9 (unhide OG2).1)
    have lo9 : w.heap.size + 2 ≤ w9.heap.size := by have := (unhide P9).lt; have := unhide LPZ; omega
    clear hP9 hg9 t9 hCN P8 M8 B8 Z8 E8 V8 X8 G8
    go_wp2_with fail
    refine (sall P id nd tm vt 2 CN el wt true (some ⟨g7, 0, none⟩) c7 (n + 1) vA vC nv xA xC nx gA gC ng (some ⟨g0, 0, none⟩) 0 0 (w.heap.size + 2) [] rfl (by decide) (l ++ [(tm, d)]) HN2 (by omega) lx J (fun t h => ⟨(unhide HJ t h).1, by have := (unhide HJ t h).2; omega⟩) HNx hnd hnn cc7 w9 (unhide P9) (unhide M9') lo9 (fun e => (unhide GP).1 (Option.some.inj e)) (fun x hx => by cases hx) (unhide E9) (unhide X9) (unhide OE2).1 (unhide OX2).1).mono ?_
    rintro e w10 ⟨a1, n1, c1, L1, rfl, hP10, hM10, hL10, hT10⟩
    rw [List.nil_append] at hM10
    obtain ⟨CC, hCC⟩ : ∃ CC : Int, CC = (CN : Int) := ⟨_, rfl⟩
    rw [← hCC] at hP10 hL10
    have kp10 := hP10.S
    have P11 := hide hP10.drew
    have Z11 := hide ((unhide Z9).keep hT10.size (hT10.block _ (unhide Z9).lt (by have := unhide LPZ; omega) (fun e => by have e1 : g0 = w.heap.size + 1 := Option.some.inj e; have := unhide GP; omega))).drew
    have b10 := below_two (unhide B9) hT10 (unhide B9).size (by have := unhide LPZ; omega) (fun j hj => by have e1 : g0 = j := Option.some.inj hj; have := unhide GP; omega)
    have bd : Below w10.heap.size w10 w10.drew := (Below.refl _ _).drew
    have Y11 : Hid ((RowV w10.drew (some ⟨g7, 0, none⟩) (cE (l ++ [(tm, d)])) ∧ RowV w10.drew vA (cI lv) ∧ RowV w10.drew xA (cI lx) ∧ RowV w10.drew gA (cI lg)) ∧ MOwn w10.drew (w.heap.size + 2) (.slice a1 n1 c1) L1 ∧ Below w.heap.size w w10.drew) :=
      ⟨⟨((unhide E9).two hT10 (unhide OE2).1).below bd, ((unhide V9).two hT10 (unhide OV2).1).below bd, ((unhide X9).two hT10 (unhide OX2).1).below bd, ((unhide G9).two hT10 (unhide OG2).1).below bd⟩, hM10.below bd, b10.drew⟩
    have HL10 : Hid (L1.map (·.1) = tls id tm ((advN id tm nd (l ++ [(tm, d)]) lg c (n + 1) : Nat) : Int) (l ++ [(tm, d)]) J nd) := by show _ = _; rw [hL10, hCC, unhide HCN]
    have HCC : Hid (CC = ((advN id tm nd (l ++ [(tm, d)]) lg c (n + 1) : Nat) : Int)) := by show _ = _; rw [hCC, unhide HCN]
    clear hP10 hM10 hL10 hT10 hCC b10 bd P9 M9' B9 Z9 E9 V9 X9 G9 lo9 HCN
    go_wp2_with fail
    refine wp_region_held_drew (S := fun w' => ∀ o, w'.cell? ⟨P, o, none⟩ = (#[.int .i64 id, .int .i64 (nd : Int), .int .i64 tm, .int .i64 vt, .int .i64 2, .bool true, .slice (some ⟨g7, 0, none⟩) (n + 1) c7, .int .i64 CC, .int .i64 el, .int .i64 wt, .slice vA nv vC, .slice xA nx xC, .slice gA ng gC, .slice a1 n1 c1] : Array Value)[o]?) (by kernel_rfl) kp10 (fun hHeld => ?_)
    generalize w10.drew = w11 at P11 Z11 Y11 hHeld ⊢
    refine wpAnyH_take (i := 0) (oi := { dst := some 51, op := .move (.tmp 7), type := 64, pos := "l08_raft.go:317", after := #[], guard := none }) (v := ?_) rfl (by kernel_rfl) (by kernel_rfl) (by kernel_rfl) (fun _ _ _ h => h) (Or.inl ⟨by rfl, ?_⟩) (by assumption) ?_
    rotate_left 1
    · (intro w' hSw; (try dsimp only at hSw); go_simp; try with_reducible rfl)
    try simp only [Act.put, qqA, qqB, qqC]
    refine wpAnyH_take (i := 1) (oi := { dst := some 52, op := .nilCheck (.tmp 51), type := 0, pos := "l08_raft.go:317", after := #[{ on := 0, ground := .data }], guard := none }) (v := ?_) rfl (by kernel_rfl) (by kernel_rfl) (by kernel_rfl) (fun _ _ _ h => h) (Or.inl ⟨by rfl, ?_⟩) (by assumption) ?_
    rotate_left 1
    · (intro w' hSw; (try dsimp only at hSw); go_simp; try with_reducible rfl)
    try simp only [Act.put, qqA, qqB, qqC]
    refine wpAnyH_take (i := 2) (oi := { dst := some 53, op := .fieldAddr 66 (.tmp 52) 0, type := 0, pos := "l08_raft.go:317", after := #[{ on := 1, ground := .data }], guard := none }) (v := ?_) rfl (by kernel_rfl) (by kernel_rfl) (by kernel_rfl) (fun _ _ _ h => h) (Or.inl ⟨by rfl, ?_⟩) (by assumption) ?_
    rotate_left 1
    · (intro w' hSw; (try dsimp only at hSw); go_simp; try with_reducible rfl)
    try simp only [Act.put, qqA, qqB, qqC]
    refine wpAnyH_take (i := 3) (oi := { dst := some 54, op := .load 29 (.tmp 53), type := 29, pos := "l08_raft.go:317", after := #[{ on := 2, ground := .data }], guard := none }) (v := ?_) rfl (by kernel_rfl) (by kernel_rfl) (by kernel_rfl) (fun _ _ _ h => h) (Or.inl ⟨by rfl, ?_⟩) (by assumption) ?_
    rotate_left 1
    · (intro w' hSw; (try dsimp only at hSw); go_simp; try with_reducible rfl)
    try simp only [Act.put, qqA, qqB, qqC]
    refine wpAnyH_take (i := 4) (oi := { dst := some 55, op := .move (.tmp 7), type := 64, pos := "l08_raft.go:317", after := #[{ on := 8, ground := .gcOnly Go.Departure.lateStores }], guard := none }) (v := ?_) rfl (by kernel_rfl) (by kernel_rfl) (by kernel_rfl) (fun _ _ _ h => h) (Or.inl ⟨by rfl, ?_⟩) (by assumption) ?_
    rotate_left 1
    · (intro w' hSw; (try dsimp only at hSw); go_simp; try with_reducible rfl)
    try simp only [Act.put, qqA, qqB, qqC]
    refine wpAnyH_take (i := 5) (oi := { dst := some 56, op := .nilCheck (.tmp 55), type := 0, pos := "l08_raft.go:317", after := #[{ on := 4, ground := .data }, { on := 8, ground := .gcOnly Go.Departure.lateStores }], guard := none }) (v := ?_) rfl (by kernel_rfl) (by kernel_rfl) (by kernel_rfl) (fun _ _ _ h => h) (Or.inl ⟨by rfl, ?_⟩) (by assumption) ?_
    rotate_left 1
    · (intro w' hSw; (try dsimp only at hSw); go_simp; try with_reducible rfl)
    try simp only [Act.put, qqA, qqB, qqC]
    refine wpAnyH_take (i := 6) (oi := { dst := some 57, op := .fieldAddr 66 (.tmp 56) 1, type := 0, pos := "l08_raft.go:317", after := #[{ on := 5, ground := .data }, { on := 8, ground := .gcOnly Go.Departure.lateStores }], guard := none }) (v := ?_) rfl (by kernel_rfl) (by kernel_rfl) (by kernel_rfl) (fun _ _ _ h => h) (Or.inl ⟨by rfl, ?_⟩) (by assumption) ?_
    rotate_left 1
    · (intro w' hSw; (try dsimp only at hSw); go_simp; try with_reducible rfl)
    try simp only [Act.put, qqA, qqB, qqC]
    refine wpAnyH_take (i := 7) (oi := { dst := some 58, op := .load 30 (.tmp 57), type := 30, pos := "l08_raft.go:317", after := #[{ on := 6, ground := .data }, { on := 8, ground := .gcOnly Go.Departure.lateStores }], guard := none }) (v := ?_) rfl (by kernel_rfl) (by kernel_rfl) (by kernel_rfl) (fun _ _ _ h => h) (Or.inl ⟨by rfl, ?_⟩) (by assumption) ?_
    rotate_left 1
    · (intro w' hSw; (try dsimp only at hSw); go_simp; try with_reducible rfl)
    try simp only [Act.put, qqA, qqB, qqC]
    refine wpAnyH_ready (rs := [8]) (by kernel_rfl) (by simp) ?_
    refine AllReadyH.cons (o := { dst := none, op := .store 29 (.tmp 4) (.tmp 54), type := 0, pos := "l08_raft.go:317", after := #[{ on := 3, ground := .data }, { on := 0, ground := .phase }, { on := 1, ground := .phase }, { on := 2, ground := .phase }, { on := 3, ground := .phase }, { on := 4, ground := .textOnly Go.Departure.lateStores }, { on := 5, ground := .textOnly Go.Departure.lateStores }, { on := 6, ground := .textOnly Go.Departure.lateStores }, { on := 7, ground := .textOnly Go.Departure.lateStores }], guard := none }) rfl (fun K hK => ?_) AllReadyH.nil
    have kz := (unhide Z11).S
    have kzf := (unhide Z11).F
    obtain ⟨wz, hvz, hFZ, hfz, hbz⟩ := put13 w11 (unhide Z11) (.int .i64 id) (.int .i64 (nd : Int)) (.int .i64 tm) (.int .i64 vt) (.int .i64 2) (.bool true) (.slice (some ⟨g7, 0, none⟩) (n + 1) c7) (.int .i64 CC) (.int .i64 el) (.int .i64 wt) (.slice vA nv vC) (.slice xA nx xC) (.slice gA ng gC)
    have P12 := (unhide P11).keep hbz.size (hfz P (by have := unhide LP; omega))
    go_simp
    rw [← hvz]
    refine hK.out _ _ ?_ (fun hHeld8 => ?_)
    · exact P12.S
    clear hK K
    try simp only [Act.put, qqA, qqB, qqC]
    refine wpAnyH_take (i := 9) (oi := { dst := some 5, op := .assign (.tmp 58), type := 30, pos := "l08_raft.go:317", after := #[{ on := 7, ground := .data }, { on := 8, ground := .chain }, { on := 0, ground := .phase }, { on := 1, ground := .phase }, { on := 2, ground := .phase }, { on := 3, ground := .phase }, { on := 4, ground := .phase }, { on := 5, ground := .phase }, { on := 6, ground := .phase }, { on := 7, ground := .phase }, { on := 8, ground := .phase }], guard := none }) (v := ?_) rfl (by kernel_rfl) (by kernel_rfl) (by kernel_rfl) (fun _ _ _ h => h) (Or.inl ⟨by rfl, ?_⟩) (by assumption) ?_
    rotate_left 1
    · (intro w' hSw; (try dsimp only at hSw); go_simp; try with_reducible rfl)
    try simp only [Act.put, qqA, qqB, qqC]
    refine wpAnyH_take (i := 10) (oi := { dst := some 6, op := .assign (.const (.int .i64 0)), type := 3, pos := "l08_raft.go:317", after := #[{ on := 9, ground := .chain }, { on := 0, ground := .phase }, { on := 1, ground := .phase }, { on := 2, ground := .phase }, { on := 3, ground := .phase }, { on := 4, ground := .phase }, { on := 5, ground := .phase }, { on := 6, ground := .phase }, { on := 7, ground := .phase }, { on := 8, ground := .phase }, { on := 9, ground := .phase }], guard := none }) (v := ?_) rfl (by kernel_rfl) (by kernel_rfl) (by kernel_rfl) (fun _ _ _ h => h) (Or.inl ⟨by rfl, ?_⟩) (by assumption) ?_
    rotate_left 1
    · (intro w' hSw; (try dsimp only at hSw); go_simp; try with_reducible rfl)
    try simp only [Act.put, qqA, qqB, qqC]
    refine wpAnyH_done (by kernel_rfl) ?_ _
    have kf := hFZ.S
    obtain ⟨⟨y1, y2, y3, y4⟩, y5, y6⟩ := unhide Y11
    have tz := Two.far hfz hbz
    have FIN : Hid ((RowV wz (some ⟨g7, 0, none⟩) (cE (l ++ [(tm, d)])) ∧ RowV wz vA (cI lv) ∧ RowV wz xA (cI lx) ∧ RowV wz gA (cI lg)) ∧ MOwn wz w.heap.size (.slice a1 n1 c1) L1 ∧ Below w.heap.size w wz) :=
      ⟨⟨y1.two tz (unhide OE2).2, y2.two tz (unhide OV2).2, y3.two tz (unhide OX2).2, y4.two tz (unhide OG2).2⟩, (y5.far hfz (by omega)).low (by omega), y6.trans (hbz.mono (Nat.le_succ _))⟩
    clear hvz hfz hbz kz kzf y1 y2 y3 y4 y5 y6 tz Y11 P12 P11 Z11
    go_wp2_with fail
    obtain ⟨f1, f2, f3⟩ := unhide FIN
    refine bodyPost_ret (v := .tuple #[.agg #[.int .i64 id, .int .i64 (nd : Int), .int .i64 tm, .int .i64 vt, .int .i64 2, .bool true, .slice (some ⟨g7, 0, none⟩) (n + 1) c7, .int .i64 CC, .int .i64 el, .int .i64 wt, .slice vA nv vC, .slice xA nx xC, .slice gA ng gC], .slice a1 n1 c1, .int .i64 0]) (by simp [results, Try.results18, go_sem, kf]) rfl ⟨some ⟨g7, 0, none⟩, c7, vA, vC, xA, xC, gA, gC, .slice a1 n1 c1, L1, by rw [unhide HCC], f1, unhide HL10, f2, f3⟩
  · skip
    obtain ⟨G, hG⟩ : ∃ G, G = w5.heap.size := ⟨_, rfl⟩
    have hb6 : Below w5.heap.size w5 (w5.alloc (.cells #[.int .i64 tm, .string d] 49)) := Go.Joins.below_alloc1 w5 (.cells #[.int .i64 tm, .string d] 49)
    have R6 := hide (BF.new w5 #[.int .i64 tm, .string d] 49)
    have P6 := hide ((unhide P5).below hb6)
    have A6 := hide ((unhide A5).below hb6)
    have E6 := hide (((heldZ_of (unhide E5)).below hb6 (Nat.le_refl _)).own)
    have T6 : Hid (Two P (Value.slice eA n eC).ownBlock w4 (w5.alloc (.cells #[.int .i64 tm, .string d] 49))) := (unhide T5).trans (Two.of_below hb6) (fun j _ e => e)
    have z6 : Hid (P < (w5.alloc (.cells #[.int .i64 tm, .string d] 49)).heap.size) := (unhide P6).lt
    rw [← hG] at R6
    go_simp
    refine hK.out _ _ ?_ (fun hHeldB => ?_)
    · exact (unhide A6).S
    clear hK K
    try simp only [Act.put, qqA, qqB, qqC]
    rw [← hG]
    clear hb6 hG
    generalize w5.alloc (.cells #[.int .i64 tm, .string d] 49) = w6 at R6 P6 A6 E6 T6 z6 hHeldB ⊢
    refine wpAnyH_ready (rs := [5]) (by kernel_rfl) (by simp) ?_
    refine AllReadyH.cons (o := { dst := some 37, op := .load 27 (.tmp 36), type := 27, pos := "l08_raft.go:314", after := #[{ on := 4, ground := .data }], guard := none }) rfl (fun K hK => ?_) AllReadyH.nil
    have kp := (unhide P6).S
    go_simp
    refine hK.out _ _ ?_ (fun hHeldL => ?_)
    · exact (unhide A6).S
    clear hK K kp
    try simp only [Act.put, qqA, qqB, qqC]
    refine wpAnyH_ready (rs := [11]) (by kernel_rfl) (by simp) ?_
    refine AllReadyH.cons (o := { dst := some 43, op := .call { callee := .builtin Go.Builtin.append, args := #[.tmp 37, .tmp 42], argTypes := #[27, 27] }, type := 27, pos := "l08_raft.go:314", after := #[{ on := 5, ground := .data }, { on := 10, ground := .data }], guard := none }) rfl (fun K hK => ?_) AllReadyH.nil
    refine step_append_lies w6 rfl (.tmp 37) (.tmp 42) 27 rfl (w.heap.size + 2) 49 ie (.agg #[.int .i64 0, .string ⟨#[]⟩]) 2 24 Try.underlying27 hie hie0 hie1 hie2 rfl (by decide) (.slice eA n eC) n (cE l) rfl (unhide E6) ⟨G, 0, none⟩ 1 1 [.int .i64 tm, .string d] rfl rfl (by intro j u hj; have e := (unhide R6).S j; rw [show (⟨G, 0, none⟩ : Addr).add j = ⟨G, j, none⟩ from (by unfold Addr.add; split <;> simp_all)]; rw [e]; simpa using hj) (by intro u hu; simp at hu; rcases hu with rfl | rfl <;> rfl) (by decide) (by unfold maxLen; omega) (by omega) (by have := unhide z6; have := unhide LP; omega) _ rfl ?_
    intro g7 c7 w7 ho7 hg7 hat7 hlt7
    have P7 := hide ((unhide P6).grown hg7 (fun h => by have := unhide EL _ h; have := unhide LP; omega))
    have A7 := hide ((unhide A6).grown hg7 (fun h => by have := (unhide EL) _ h; omega))
    have T7 : Hid (Two P (Value.slice eA n eC).ownBlock w4 w7) := (unhide T6).trans (Two.of_grown hg7 (fun k _ e => .inr e)) (fun j _ e => e)
    have F7 : Hid (w.heap.size + 2 ≤ g7 ∧ g7 ≠ P ∧ g7 ≠ g0) := by
      show _ ∧ _
      rcases hat7 with h | h
      · have := unhide EL _ h; have := unhide LP; omega
      · have := unhide z6; have := unhide LP; omega
    have cc7 : n + 1 ≤ c7 := by
      rcases ho7.2 with ⟨hx0, _⟩ | ⟨gq, cq, cur, hvq, _, _, hnc, _⟩
      · cases hx0
      · injection hvq with _ _ e3; rw [e3]; exact hnc
    have E7 : Hid (w7.ownsRow (w.heap.size + 2) 49 2 (.slice (some ⟨g7, 0, none⟩) (n + 1) c7) (n + 1) (cE (l ++ [(tm, d)]))) := by show World.ownsRow _ _ _ _ _ _ _; rw [cE_app]; exact ho7
    clear ho7 hg7 hat7 hlt7 P6 A6 E6 T6 R6 z6
    refine hK.out _ _ ?_ (fun hHeld11 => ?_)
    · exact (unhide A7).S
    clear hK K
    try simp only [Act.put, qqA, qqB, qqC]
    refine wpAnyH_take (i := 12) (oi := { dst := some 44, op := .nilCheck (.tmp 32), type := 0, pos := "l08_raft.go:314", after := #[{ on := 0, ground := .data }, { on := 0, ground := .phase }, { on := 1, ground := .phase }, { on := 2, ground := .phase }, { on := 3, ground := .phase }, { on := 4, ground := .phase }, { on := 5, ground := .phase }, { on := 6, ground := .phase }, { on := 7, ground := .phase }, { on := 8, ground := .phase }, { on := 9, ground := .phase }, { on := 10, ground := .phase }, { on := 11, ground := .phase }], guard := none }) (v := ?_) rfl (by kernel_rfl) (by kernel_rfl) (by kernel_rfl) (fun _ _ _ h => h) (Or.inl ⟨by rfl, ?_⟩) (by assumption) ?_
    rotate_left 1
    · (intro w' hSw; (try dsimp only at hSw); go_simp; try with_reducible rfl)
    try simp only [Act.put, qqA, qqB, qqC]
    refine wpAnyH_take (i := 13) (oi := { dst := some 45, op := .fieldAddr 66 (.tmp 44) 0, type := 0, pos := "l08_raft.go:314", after := #[{ on := 12, ground := .data }, { on := 0, ground := .phase }, { on := 1, ground := .phase }, { on := 2, ground := .phase }, { on := 3, ground := .phase }, { on := 4, ground := .phase }, { on := 5, ground := .phase }, { on := 6, ground := .phase }, { on := 7, ground := .phase }, { on := 8, ground := .phase }, { on := 9, ground := .phase }, { on := 10, ground := .phase }, { on := 11, ground := .phase }], guard := none }) (v := ?_) rfl (by kernel_rfl) (by kernel_rfl) (by kernel_rfl) (fun _ _ _ h => h) (Or.inl ⟨by rfl, ?_⟩) (by assumption) ?_
    rotate_left 1
    · (intro w' hSw; (try dsimp only at hSw); go_simp; try with_reducible rfl)
    try simp only [Act.put, qqA, qqB, qqC]
    refine wpAnyH_take (i := 14) (oi := { dst := some 46, op := .fieldAddr 29 (.tmp 45) 6, type := 0, pos := "l08_raft.go:314", after := #[{ on := 13, ground := .data }, { on := 0, ground := .phase }, { on := 1, ground := .phase }, { on := 2, ground := .phase }, { on := 3, ground := .phase }, { on := 4, ground := .phase }, { on := 5, ground := .phase }, { on := 6, ground := .phase }, { on := 7, ground := .phase }, { on := 8, ground := .phase }, { on := 9, ground := .phase }, { on := 10, ground := .phase }, { on := 11, ground := .phase }], guard := none }) (v := ?_) rfl (by kernel_rfl) (by kernel_rfl) (by kernel_rfl) (fun _ _ _ h => h) (Or.inl ⟨by rfl, ?_⟩) (by assumption) ?_
    rotate_left 1
    · (intro w' hSw; (try dsimp only at hSw); go_simp; try with_reducible rfl)
    try simp only [Act.put, qqA, qqB, qqC]
    refine wpAnyH_ready (rs := [15]) (by kernel_rfl) (by simp) ?_
    refine AllReadyH.cons (o := { dst := none, op := .store 27 (.tmp 46) (.tmp 43), type := 0, pos := "l08_raft.go:314", after := #[{ on := 14, ground := .data }, { on := 11, ground := .data }, { on := 11, ground := .chain }, { on := 0, ground := .phase }, { on := 1, ground := .phase }, { on := 2, ground := .phase }, { on := 3, ground := .phase }, { on := 4, ground := .phase }, { on := 5, ground := .phase }, { on := 6, ground := .phase }, { on := 7, ground := .phase }, { on := 8, ground := .phase }, { on := 9, ground := .phase }, { on := 10, ground := .phase }, { on := 11, ground := .phase }], guard := none }) rfl (fun K hK => ?_) AllReadyH.nil
    have kp := (unhide P7).S
    have kpf := (unhide P7).F
    obtain ⟨w8, hw8⟩ : ∃ w8, w8 = w7.setCell ⟨P, 6, none⟩ (.slice (some ⟨g7, 0, none⟩) (n + 1) c7) := ⟨_, rfl⟩
    have P8 : Hid (BF P #[.int .i64 id, .int .i64 (nd : Int), .int .i64 tm, .int .i64 vt, .int .i64 2, .bool true, .slice (some ⟨g7, 0, none⟩) (n + 1) c7, .int .i64 (c : Int), .int .i64 el, .int .i64 wt, .slice vA nv vC, .slice xA nx xC, .slice gA ng gC, .slice (some ⟨g0, 0, none⟩) 0 0] w8) := by rw [hw8]; exact (unhide P7).set 6 (by simp) _
    have hf8 : ∀ k, k ≠ P → w8.heap[k]? = w7.heap[k]? := fun k hk => by rw [hw8]; exact Below.heap_setCell _ _ _ _ hk
    have hs8 : w7.heap.size ≤ w8.heap.size := by rw [hw8]; simp
    have A8 := (unhide A7).keep hs8 (hf8 _ (by have := unhide LP; omega))
    have T8 : Hid (Two P (Value.slice eA n eC).ownBlock w4 w8) := by rw [hw8]; exact (unhide T7).set
    have E8 := hide (own_keepB (unhide E7) (hf8 g7 (unhide F7).2.1))
    go_simp
    rw [← hw8]
    refine hK.out _ _ ?_ (fun hHeld15 => ?_)
    · exact A8.S
    clear hK K
    try simp only [Act.put, qqA, qqB, qqC]
    refine wpAnyH_done (by kernel_rfl) ?_ _
    clear kp kpf hw8 hf8 hs8 A8 P7 A7 T7 E7 hHeld
    have M8 : Hid (MOwn w8 (w.heap.size + 2) (.slice (some ⟨g0, 0, none⟩) 0 0) []) := ⟨own_keepB (unhide M4).row ((unhide T8).block g0 (by have := (unhide P4).lt; have := unhide LP; omega) (by have := unhide LP; omega) (fun e => by have := unhide EL _ e; omega)), (fun p hp => by cases hp), List.Pairwise.nil, (fun p hp => by cases hp)⟩
    have B8 : Hid (Below w.heap.size w w8) := below_two (unhide B4) (unhide T8) (unhide B4).size (by have := unhide LP; omega) (fun j hj => by have := unhide EL _ hj; omega)
    have Z8 := hide ((unhide Z4).keep (unhide T8).size ((unhide T8).block _ (unhide Z4).lt (by have := unhide LP; omega) (fun e => by have := unhide EL _ e; omega)))
    have OV : OffA P (Value.slice eA n eC).ownBlock vA := offA_own (unhide V4) (fun j hj => ⟨by have := unhide VL j hj; have := unhide LP; omega, unhide VN j hj⟩)
    have OX : OffA P (Value.slice eA n eC).ownBlock xA := offA_own (unhide X4) (fun j hj => ⟨by have := unhide XL j hj; have := unhide LP; omega, unhide XN j hj⟩)
    have OG : OffA P (Value.slice eA n eC).ownBlock gA := offA_own (unhide G4) (fun j hj => ⟨by have := unhide GL j hj; have := unhide LP; omega, unhide GN j hj⟩)
    have V8 := hide ((rowZ_at (unhide V4)).two (unhide T8) OV)
    have X8 := hide ((rowZ_at (unhide X4)).two (unhide T8) OX)
    have G8 := hide ((rowZ_at (unhide G4)).two (unhide T8) OG)
    have OV2 : Hid (OffA P (some g0) vA ∧ OffA (w.heap.size + 1) none vA) := ⟨offA_own (unhide V4) (fun j hj => ⟨by have := unhide VL j hj; have := unhide LP; omega, fun e => by have := unhide VL j hj; injection e with e; omega⟩), offA_own (unhide V4) (fun j hj => ⟨by have := unhide VL j hj; omega, fun e => by cases e⟩)⟩
    have OX2 : Hid (OffA P (some g0) xA ∧ OffA (w.heap.size + 1) none xA) := ⟨offA_own (unhide X4) (fun j hj => ⟨by have := unhide XL j hj; have := unhide LP; omega, fun e => by have := unhide XL j hj; injection e with e; omega⟩), offA_own (unhide X4) (fun j hj => ⟨by have := unhide XL j hj; omega, fun e => by cases e⟩)⟩
    have OG2 : Hid (OffA P (some g0) gA ∧ OffA (w.heap.size + 1) none gA) := ⟨offA_own (unhide G4) (fun j hj => ⟨by have := unhide GL j hj; have := unhide LP; omega, fun e => by have := unhide GL j hj; injection e with e; omega⟩), offA_own (unhide G4) (fun j hj => ⟨by have := unhide GL j hj; omega, fun e => by cases e⟩)⟩
    have OE2 : Hid (OffA P (some g0) (some ⟨g7, 0, none⟩) ∧ OffA (w.heap.size + 1) none (some ⟨g7, 0, none⟩)) := ⟨fun x hx => by injection hx with hx; subst hx; have := unhide F7; exact ⟨this.2.1, fun e => this.2.2 (Option.some.inj e).symm⟩, fun x hx => by injection hx with hx; subst hx; have := unhide F7; exact ⟨by show g7 ≠ _; omega, fun e => by cases e⟩⟩
    have GP : Hid (g0 ≠ P ∧ w.heap.size + 1 < g0) := by show _ ∧ _; have := unhide LP; omega
    have LPZ := hide (show w.heap.size + 2 ≤ P by have := unhide LP; omega)
    clear OV OX OG T8 M4 B4 Z4 V4 X4 G4 E4 P4 A4 VL XL GL VN XN GN EL
    go_wp2_with fail
    refine (sadvance P id nd tm vt 2 c el wt true (some ⟨g7, 0, none⟩) c7 (n + 1) vA vC nv xA xC nx gA gC ng (.slice (some ⟨g0, 0, none⟩) 0 0) (l ++ [(tm, d)]) HN2 (by omega) lg HNg hgg hnd (by omega) HM w8 (unhide P8) (rowZ_at (unhide E8)) (unhide G8)).mono ?_
    rintro e w9 ⟨rfl, hP9, hg9⟩
    obtain ⟨CN, hCN⟩ : ∃ CN : Nat, CN = advN id tm nd (l ++ [(tm, d)]) lg c (n + 1) := ⟨_, rfl⟩
    rw [← hCN] at hP9
    have HCN := hide hCN
    have t9 : Two P (some g0) w8 w9 := Two.of_grown hg9 (fun k _ e => .inl (Option.some.inj e).symm)
    have P9 := hide hP9
    have M9' : Hid (MOwn w9 (w.heap.size + 2) (.slice (some ⟨g0, 0, none⟩) 0 0) []) := ⟨own_keepB (unhide M8).row (hg9.block g0 ((unhide M8).row.lt g0 rfl).2 (fun e => (unhide GP).1 (Option.some.inj e))), (fun p hp => by cases hp), List.Pairwise.nil, (fun p hp => by cases hp)⟩
    have B9 := hide (below_two (unhide B8) t9 (unhide B8).size (by have := unhide LPZ; omega) (fun j hj => by injection hj with hj; have := unhide GP; omega))
    have Z9 := hide ((unhide Z8).keep t9.size (t9.block _ (unhide Z8).lt (by have := unhide LPZ; omega) (fun e => by injection e with e; have := unhide GP; omega)))
    have E9 := hide ((rowZ_at (unhide E8)).two t9 (unhide OE2).1)
    have V9 := hide ((unhide V8).two t9 (unhide OV2).1)
    have X9 := hide ((unhide X8).two t9 (unhide OX2).1)
    have G9 := hide ((unhide G8).two t9 (unhide OG2).1)
    have lo9 : w.heap.size + 2 ≤ w9.heap.size := by have := (unhide P9).lt; have := unhide LPZ; omega
    clear hP9 hg9 t9 hCN P8 M8 B8 Z8 E8 V8 X8 G8
    go_wp2_with fail
    refine (sall P id nd tm vt 2 CN el wt true (some ⟨g7, 0, none⟩) c7 (n + 1) vA vC nv xA xC nx gA gC ng (some ⟨g0, 0, none⟩) 0 0 (w.heap.size + 2) [] rfl (by decide) (l ++ [(tm, d)]) HN2 (by omega) lx J (fun t h => ⟨(unhide HJ t h).1, by have := (unhide HJ t h).2; omega⟩) HNx hnd hnn cc7 w9 (unhide P9) (unhide M9') lo9 (fun e => (unhide GP).1 (Option.some.inj e)) (fun x hx => by cases hx) (unhide E9) (unhide X9) (unhide OE2).1 (unhide OX2).1).mono ?_
    rintro e w10 ⟨a1, n1, c1, L1, rfl, hP10, hM10, hL10, hT10⟩
    rw [List.nil_append] at hM10
    obtain ⟨CC, hCC⟩ : ∃ CC : Int, CC = (CN : Int) := ⟨_, rfl⟩
    rw [← hCC] at hP10 hL10
    have kp10 := hP10.S
    have P11 := hide hP10.drew
    have Z11 := hide ((unhide Z9).keep hT10.size (hT10.block _ (unhide Z9).lt (by have := unhide LPZ; omega) (fun e => by have e1 : g0 = w.heap.size + 1 := Option.some.inj e; have := unhide GP; omega))).drew
    have b10 := below_two (unhide B9) hT10 (unhide B9).size (by have := unhide LPZ; omega) (fun j hj => by have e1 : g0 = j := Option.some.inj hj; have := unhide GP; omega)
    have bd : Below w10.heap.size w10 w10.drew := (Below.refl _ _).drew
    have Y11 : Hid ((RowV w10.drew (some ⟨g7, 0, none⟩) (cE (l ++ [(tm, d)])) ∧ RowV w10.drew vA (cI lv) ∧ RowV w10.drew xA (cI lx) ∧ RowV w10.drew gA (cI lg)) ∧ MOwn w10.drew (w.heap.size + 2) (.slice a1 n1 c1) L1 ∧ Below w.heap.size w w10.drew) :=
      ⟨⟨((unhide E9).two hT10 (unhide OE2).1).below bd, ((unhide V9).two hT10 (unhide OV2).1).below bd, ((unhide X9).two hT10 (unhide OX2).1).below bd, ((unhide G9).two hT10 (unhide OG2).1).below bd⟩, hM10.below bd, b10.drew⟩
    have HL10 : Hid (L1.map (·.1) = tls id tm ((advN id tm nd (l ++ [(tm, d)]) lg c (n + 1) : Nat) : Int) (l ++ [(tm, d)]) J nd) := by show _ = _; rw [hL10, hCC, unhide HCN]
    have HCC : Hid (CC = ((advN id tm nd (l ++ [(tm, d)]) lg c (n + 1) : Nat) : Int)) := by show _ = _; rw [hCC, unhide HCN]
    clear hP10 hM10 hL10 hT10 hCC b10 bd P9 M9' B9 Z9 E9 V9 X9 G9 lo9 HCN
    go_wp2_with fail
    refine wp_region_held_drew (S := fun w' => ∀ o, w'.cell? ⟨P, o, none⟩ = (#[.int .i64 id, .int .i64 (nd : Int), .int .i64 tm, .int .i64 vt, .int .i64 2, .bool true, .slice (some ⟨g7, 0, none⟩) (n + 1) c7, .int .i64 CC, .int .i64 el, .int .i64 wt, .slice vA nv vC, .slice xA nx xC, .slice gA ng gC, .slice a1 n1 c1] : Array Value)[o]?) (by kernel_rfl) kp10 (fun hHeld => ?_)
    generalize w10.drew = w11 at P11 Z11 Y11 hHeld ⊢
    refine wpAnyH_take (i := 0) (oi := { dst := some 51, op := .move (.tmp 7), type := 64, pos := "l08_raft.go:317", after := #[], guard := none }) (v := ?_) rfl (by kernel_rfl) (by kernel_rfl) (by kernel_rfl) (fun _ _ _ h => h) (Or.inl ⟨by rfl, ?_⟩) (by assumption) ?_
    rotate_left 1
    · (intro w' hSw; (try dsimp only at hSw); go_simp; try with_reducible rfl)
    try simp only [Act.put, qqA, qqB, qqC]
    refine wpAnyH_take (i := 1) (oi := { dst := some 52, op := .nilCheck (.tmp 51), type := 0, pos := "l08_raft.go:317", after := #[{ on := 0, ground := .data }], guard := none }) (v := ?_) rfl (by kernel_rfl) (by kernel_rfl) (by kernel_rfl) (fun _ _ _ h => h) (Or.inl ⟨by rfl, ?_⟩) (by assumption) ?_
    rotate_left 1
    · (intro w' hSw; (try dsimp only at hSw); go_simp; try with_reducible rfl)
    try simp only [Act.put, qqA, qqB, qqC]
    refine wpAnyH_take (i := 2) (oi := { dst := some 53, op := .fieldAddr 66 (.tmp 52) 0, type := 0, pos := "l08_raft.go:317", after := #[{ on := 1, ground := .data }], guard := none }) (v := ?_) rfl (by kernel_rfl) (by kernel_rfl) (by kernel_rfl) (fun _ _ _ h => h) (Or.inl ⟨by rfl, ?_⟩) (by assumption) ?_
    rotate_left 1
    · (intro w' hSw; (try dsimp only at hSw); go_simp; try with_reducible rfl)
    try simp only [Act.put, qqA, qqB, qqC]
    refine wpAnyH_take (i := 3) (oi := { dst := some 54, op := .load 29 (.tmp 53), type := 29, pos := "l08_raft.go:317", after := #[{ on := 2, ground := .data }], guard := none }) (v := ?_) rfl (by kernel_rfl) (by kernel_rfl) (by kernel_rfl) (fun _ _ _ h => h) (Or.inl ⟨by rfl, ?_⟩) (by assumption) ?_
    rotate_left 1
    · (intro w' hSw; (try dsimp only at hSw); go_simp; try with_reducible rfl)
    try simp only [Act.put, qqA, qqB, qqC]
    refine wpAnyH_take (i := 4) (oi := { dst := some 55, op := .move (.tmp 7), type := 64, pos := "l08_raft.go:317", after := #[{ on := 8, ground := .gcOnly Go.Departure.lateStores }], guard := none }) (v := ?_) rfl (by kernel_rfl) (by kernel_rfl) (by kernel_rfl) (fun _ _ _ h => h) (Or.inl ⟨by rfl, ?_⟩) (by assumption) ?_
    rotate_left 1
    · (intro w' hSw; (try dsimp only at hSw); go_simp; try with_reducible rfl)
    try simp only [Act.put, qqA, qqB, qqC]
    refine wpAnyH_take (i := 5) (oi := { dst := some 56, op := .nilCheck (.tmp 55), type := 0, pos := "l08_raft.go:317", after := #[{ on := 4, ground := .data }, { on := 8, ground := .gcOnly Go.Departure.lateStores }], guard := none }) (v := ?_) rfl (by kernel_rfl) (by kernel_rfl) (by kernel_rfl) (fun _ _ _ h => h) (Or.inl ⟨by rfl, ?_⟩) (by assumption) ?_
    rotate_left 1
    · (intro w' hSw; (try dsimp only at hSw); go_simp; try with_reducible rfl)
    try simp only [Act.put, qqA, qqB, qqC]
    refine wpAnyH_take (i := 6) (oi := { dst := some 57, op := .fieldAddr 66 (.tmp 56) 1, type := 0, pos := "l08_raft.go:317", after := #[{ on := 5, ground := .data }, { on := 8, ground := .gcOnly Go.Departure.lateStores }], guard := none }) (v := ?_) rfl (by kernel_rfl) (by kernel_rfl) (by kernel_rfl) (fun _ _ _ h => h) (Or.inl ⟨by rfl, ?_⟩) (by assumption) ?_
    rotate_left 1
    · (intro w' hSw; (try dsimp only at hSw); go_simp; try with_reducible rfl)
    try simp only [Act.put, qqA, qqB, qqC]
    refine wpAnyH_take (i := 7) (oi := { dst := some 58, op := .load 30 (.tmp 57), type := 30, pos := "l08_raft.go:317", after := #[{ on := 6, ground := .data }, { on := 8, ground := .gcOnly Go.Departure.lateStores }], guard := none }) (v := ?_) rfl (by kernel_rfl) (by kernel_rfl) (by kernel_rfl) (fun _ _ _ h => h) (Or.inl ⟨by rfl, ?_⟩) (by assumption) ?_
    rotate_left 1
    · (intro w' hSw; (try dsimp only at hSw); go_simp; try with_reducible rfl)
    try simp only [Act.put, qqA, qqB, qqC]
    refine wpAnyH_ready (rs := [8]) (by kernel_rfl) (by simp) ?_
    refine AllReadyH.cons (o := { dst := none, op := .store 29 (.tmp 4) (.tmp 54), type := 0, pos := "l08_raft.go:317", after := #[{ on := 3, ground := .data }, { on := 0, ground := .phase }, { on := 1, ground := .phase }, { on := 2, ground := .phase }, { on := 3, ground := .phase }, { on := 4, ground := .textOnly Go.Departure.lateStores }, { on := 5, ground := .textOnly Go.Departure.lateStores }, { on := 6, ground := .textOnly Go.Departure.lateStores }, { on := 7, ground := .textOnly Go.Departure.lateStores }], guard := none }) rfl (fun K hK => ?_) AllReadyH.nil
    have kz := (unhide Z11).S
    have kzf := (unhide Z11).F
    obtain ⟨wz, hvz, hFZ, hfz, hbz⟩ := put13 w11 (unhide Z11) (.int .i64 id) (.int .i64 (nd : Int)) (.int .i64 tm) (.int .i64 vt) (.int .i64 2) (.bool true) (.slice (some ⟨g7, 0, none⟩) (n + 1) c7) (.int .i64 CC) (.int .i64 el) (.int .i64 wt) (.slice vA nv vC) (.slice xA nx xC) (.slice gA ng gC)
    have P12 := (unhide P11).keep hbz.size (hfz P (by have := unhide LP; omega))
    go_simp
    rw [← hvz]
    refine hK.out _ _ ?_ (fun hHeld8 => ?_)
    · exact P12.S
    clear hK K
    try simp only [Act.put, qqA, qqB, qqC]
    refine wpAnyH_take (i := 9) (oi := { dst := some 5, op := .assign (.tmp 58), type := 30, pos := "l08_raft.go:317", after := #[{ on := 7, ground := .data }, { on := 8, ground := .chain }, { on := 0, ground := .phase }, { on := 1, ground := .phase }, { on := 2, ground := .phase }, { on := 3, ground := .phase }, { on := 4, ground := .phase }, { on := 5, ground := .phase }, { on := 6, ground := .phase }, { on := 7, ground := .phase }, { on := 8, ground := .phase }], guard := none }) (v := ?_) rfl (by kernel_rfl) (by kernel_rfl) (by kernel_rfl) (fun _ _ _ h => h) (Or.inl ⟨by rfl, ?_⟩) (by assumption) ?_
    rotate_left 1
    · (intro w' hSw; (try dsimp only at hSw); go_simp; try with_reducible rfl)
    try simp only [Act.put, qqA, qqB, qqC]
    refine wpAnyH_take (i := 10) (oi := { dst := some 6, op := .assign (.const (.int .i64 0)), type := 3, pos := "l08_raft.go:317", after := #[{ on := 9, ground := .chain }, { on := 0, ground := .phase }, { on := 1, ground := .phase }, { on := 2, ground := .phase }, { on := 3, ground := .phase }, { on := 4, ground := .phase }, { on := 5, ground := .phase }, { on := 6, ground := .phase }, { on := 7, ground := .phase }, { on := 8, ground := .phase }, { on := 9, ground := .phase }], guard := none }) (v := ?_) rfl (by kernel_rfl) (by kernel_rfl) (by kernel_rfl) (fun _ _ _ h => h) (Or.inl ⟨by rfl, ?_⟩) (by assumption) ?_
    rotate_left 1
    · (intro w' hSw; (try dsimp only at hSw); go_simp; try with_reducible rfl)
    try simp only [Act.put, qqA, qqB, qqC]
    refine wpAnyH_done (by kernel_rfl) ?_ _
    have kf := hFZ.S
    obtain ⟨⟨y1, y2, y3, y4⟩, y5, y6⟩ := unhide Y11
    have tz := Two.far hfz hbz
    have FIN : Hid ((RowV wz (some ⟨g7, 0, none⟩) (cE (l ++ [(tm, d)])) ∧ RowV wz vA (cI lv) ∧ RowV wz xA (cI lx) ∧ RowV wz gA (cI lg)) ∧ MOwn wz w.heap.size (.slice a1 n1 c1) L1 ∧ Below w.heap.size w wz) :=
      ⟨⟨y1.two tz (unhide OE2).2, y2.two tz (unhide OV2).2, y3.two tz (unhide OX2).2, y4.two tz (unhide OG2).2⟩, (y5.far hfz (by omega)).low (by omega), y6.trans (hbz.mono (Nat.le_succ _))⟩
    clear hvz hfz hbz kz kzf y1 y2 y3 y4 y5 y6 tz Y11 P12 P11 Z11
    go_wp2_with fail
    obtain ⟨f1, f2, f3⟩ := unhide FIN
    refine bodyPost_ret (v := .tuple #[.agg #[.int .i64 id, .int .i64 (nd : Int), .int .i64 tm, .int .i64 vt, .int .i64 2, .bool true, .slice (some ⟨g7, 0, none⟩) (n + 1) c7, .int .i64 CC, .int .i64 el, .int .i64 wt, .slice vA nv vC, .slice xA nx xC, .slice gA ng gC], .slice a1 n1 c1, .int .i64 0]) (by simp [results, Try.results18, go_sem, kf]) rfl ⟨some ⟨g7, 0, none⟩, c7, vA, vC, xA, xC, gA, gC, .slice a1 n1 c1, L1, by rw [unhide HCC], f1, unhide HL10, f2, f3⟩
end Go.Proofs.Ytpadpgjkpajfaaa
