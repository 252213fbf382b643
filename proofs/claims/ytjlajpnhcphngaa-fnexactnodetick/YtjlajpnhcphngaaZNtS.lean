/- l08Tick, NodeTick: what the specification answers. -/
import Derived.Test.YtjlajpnhcphngaaZStkA
import Derived.Test.YtjlajpnhcphngaaZNdS
namespace Go.Proofs.Ytjlajpnhcphngaa
open Go.ChangeShapes Go.WideShapes Go.ChangeAt Go.RowKit
set_option linter.unusedVariables false
set_option maxHeartbeats 4000000 in
set_option maxRecDepth 100000 in
theorem sl08tick (id nd tm vt ro cm el wt : Int) (a : Option Addr) (cap n : Nat) (l : List (Int × ByteArray)) (HN : Hid (l.length = n)) (av : Option Addr) (cv nv : Nat) (lv : List Int) (HNv : Hid (lv.length = nv)) (ax : Option Addr) (cx nx : Nat) (lx : List Int) (HNx : Hid (lx.length = nx)) (ag : Option Addr) (cg ng : Nat) (lg : List Int) (HNg : Hid (lg.length = ng)) (hn : n ≤ 1048576) (hnv : nv ≤ 1048576) (hnx : nx ≤ 1048576) (hng : ng ≤ 1048576) (hB : nodeB id nd tm vt ro cm el wt true l lv lx lg = true) (dr : Nat) (hdr : dr ≤ 1000000) (N' : Nf) (M : List Mg) (HNM : Hid (tkP ⟨id, nd, tm, vt, ro, true, l, cm, el, wt, lv, lx, lg⟩ dr = (N', M))) (w : World) (hr : RowV w a (cE l)) (hrv : RowV w av (cI lv)) (hrx : RowV w ax (cI lx)) (hrg : RowV w ag (cI lg)) :
    Calls Try.prog 19 #[.agg #[.int .i64 id, .int .i64 nd, .int .i64 tm, .int .i64 vt, .int .i64 ro, .bool true, .slice a n cap, .int .i64 cm, .int .i64 el, .int .i64 wt, .slice av nv cv, .slice ax nx cx, .slice ag ng cg], .int .i64 (dr : Int)] w fun e w' => ∃ eB eD vB vD xB xD gB gD a1 n1 c1 L1, e = .returned (.tuple #[.agg #[.int .i64 N'.id, .int .i64 N'.nd, .int .i64 N'.tm, .int .i64 N'.vt, .int .i64 N'.ro, .bool N'.up, .slice eB N'.l.length eD, .int .i64 N'.cm, .int .i64 N'.el, .int .i64 N'.wt, .slice vB N'.lv.length vD, .slice xB N'.lx.length xD, .slice gB N'.lg.length gD], .slice a1 n1 c1]) ∧ (w'.ownsRow w.heap.size 68 2 (.slice eB N'.l.length eD) N'.l.length (cE N'.l) ∧ w'.ownsRow w.heap.size 3 1 (.slice vB N'.lv.length vD) N'.lv.length (cI N'.lv) ∧ w'.ownsRow w.heap.size 3 1 (.slice xB N'.lx.length xD) N'.lx.length (cI N'.lx) ∧ w'.ownsRow w.heap.size 3 1 (.slice gB N'.lg.length gD) N'.lg.length (cI N'.lg)) ∧ L1.map (·.1) = M ∧ MOwn w' w.heap.size (.slice a1 n1 c1) L1 ∧ Below w.heap.size w w' := by
  have B0 := hide (Go.Joins.below_alloc2 w (.cells #[.int .i64 id, .int .i64 nd, .int .i64 tm, .int .i64 vt, .int .i64 ro, .bool true, .slice a n cap, .int .i64 cm, .int .i64 el, .int .i64 wt, .slice av nv cv, .slice ax nx cx, .slice ag ng cg] 29) (.cells #[.int .i64 0, .int .i64 0, .int .i64 0, .int .i64 0, .int .i64 0, .bool false, .slice none 0 0, .int .i64 0, .int .i64 0, .int .i64 0, .slice none 0 0, .slice none 0 0, .slice none 0 0] 29))
  have A0 := hide ((BF.new w #[.int .i64 id, .int .i64 nd, .int .i64 tm, .int .i64 vt, .int .i64 ro, .bool true, .slice a n cap, .int .i64 cm, .int .i64 el, .int .i64 wt, .slice av nv cv, .slice ax nx cx, .slice ag ng cg] 29).alloc (.cells #[.int .i64 0, .int .i64 0, .int .i64 0, .int .i64 0, .int .i64 0, .bool false, .slice none 0 0, .int .i64 0, .int .i64 0, .int .i64 0, .slice none 0 0, .slice none 0 0, .slice none 0 0] 29))
  have Z0 := hide (BF.new (w.alloc (.cells #[.int .i64 id, .int .i64 nd, .int .i64 tm, .int .i64 vt, .int .i64 ro, .bool true, .slice a n cap, .int .i64 cm, .int .i64 el, .int .i64 wt, .slice av nv cv, .slice ax nx cx, .slice ag ng cg] 29)) #[.int .i64 0, .int .i64 0, .int .i64 0, .int .i64 0, .int .i64 0, .bool false, .slice none 0 0, .int .i64 0, .int .i64 0, .int .i64 0, .slice none 0 0, .slice none 0 0, .slice none 0 0] 29)
  simp only [World.size_alloc] at Z0
  have ka := (unhide A0).S
  have T := hide (sownA id nd tm vt ro cm el wt true a cap n l HN av cv nv lv HNv ax cx nx lx HNx ag cg ng lg HNg hn hnv hnx hng ((w.alloc (.cells #[.int .i64 id, .int .i64 nd, .int .i64 tm, .int .i64 vt, .int .i64 ro, .bool true, .slice a n cap, .int .i64 cm, .int .i64 el, .int .i64 wt, .slice av nv cv, .slice ax nx cx, .slice ag ng cg] 29)).alloc (.cells #[.int .i64 0, .int .i64 0, .int .i64 0, .int .i64 0, .int .i64 0, .bool false, .slice none 0 0, .int .i64 0, .int .i64 0, .int .i64 0, .slice none 0 0, .slice none 0 0, .slice none 0 0] 29)) (hr.below (unhide B0)) (hrv.below (unhide B0)) (hrx.below (unhide B0)) (hrg.below (unhide B0)))
  clear hr hrv hrx hrg
  go_enter Try.func19, Try.ntmps19
  go_wp2_with fail
  refine (unhide T).mono ?_
  clear T
  rintro e w3 ⟨eA, eC, vA, vC, xA, xC, gA, gC, rfl, he, hv, hx, hg, d1, d2, hb3⟩
  simp only [World.size_alloc] at he hv hx hg
  obtain ⟨g0, hg0⟩ : ∃ q, q = w3.heap.size := ⟨_, rfl⟩
  obtain ⟨P, hP⟩ : ∃ q, q = g0 + 1 := ⟨_, rfl⟩
  have sz3 : w.heap.size + 2 ≤ w3.heap.size := by have := hb3.size; simp only [World.size_alloc] at this; omega
  obtain ⟨w4, hw4⟩ : ∃ w4, w4 = (w3.alloc (.cells #[] 54)).alloc (.cells #[.int .i64 id, .int .i64 nd, .int .i64 tm, .int .i64 vt, .int .i64 ro, .bool true, .slice eA n eC, .int .i64 cm, .int .i64 el, .int .i64 wt, .slice vA nv vC, .slice xA nx xC, .slice gA ng gC, .slice (some ⟨g0, 0, none⟩) 0 0] 66) := ⟨_, rfl⟩
  have hb4 : Below w3.heap.size w3 w4 := by rw [hw4]; exact Go.Joins.below_alloc2 w3 _ _
  have hP4 : BF P #[.int .i64 id, .int .i64 nd, .int .i64 tm, .int .i64 vt, .int .i64 ro, .bool true, .slice eA n eC, .int .i64 cm, .int .i64 el, .int .i64 wt, .slice vA nv vC, .slice xA nx xC, .slice gA ng gC, .slice (some ⟨g0, 0, none⟩) 0 0] w4 := by have h := BF.new (w3.alloc (.cells #[] 54)) #[.int .i64 id, .int .i64 nd, .int .i64 tm, .int .i64 vt, .int .i64 ro, .bool true, .slice eA n eC, .int .i64 cm, .int .i64 el, .int .i64 wt, .slice vA nv vC, .slice xA nx xC, .slice gA ng gC, .slice (some ⟨g0, 0, none⟩) 0 0] 66; rw [World.size_alloc, ← hg0, ← hP] at h; rw [hw4]; exact h
  have Z4 := hide (((unhide Z0).below hb3).below hb4)
  have hO4 : w4.ownsRow (w.heap.size + 2) 54 9 (.slice (some ⟨g0, 0, none⟩) 0 0) 0 [] := by have h := (((MOwn.lit w3 (w.heap.size + 2) sz3).below (Go.Joins.below_alloc1 _ (.cells #[.int .i64 id, .int .i64 nd, .int .i64 tm, .int .i64 vt, .int .i64 ro, .bool true, .slice eA n eC, .int .i64 cm, .int .i64 el, .int .i64 wt, .slice vA nv vC, .slice xA nx xC, .slice gA ng gC, .slice (some ⟨g0, 0, none⟩) 0 0] 66))).row); rw [← hw4, ← hg0] at h; exact h
  have B4 := hide (((unhide B0).trans (hb3.mono (unhide B0).size)).trans (hb4.mono (by omega)))
  have le := he.lt
  have lv' := hv.lt
  have lx' := hx.lt
  have lg' := hg.lt
  have e4 := ((heldZ_of he).below hb4 (Nat.le_refl _)).own
  have v4 := ((heldZ_of hv).below hb4 (Nat.le_refl _)).own
  have x4 := ((heldZ_of hx).below hb4 (Nat.le_refl _)).own
  have g4 := ((heldZ_of hg).below hb4 (Nat.le_refl _)).own
  have ZP : Hid (w.heap.size + 2 ≤ P) := by show _ ≤ _; omega
  have T : Hid (Calls Try.prog 37 #[.pointer (some ⟨P, 0, none⟩), .int .i64 (dr : Int)] w4 fun e w' => ∃ eA eC vA vC xA xC gA gC a1 n1 c1 L1, e = .returned (.tuple #[]) ∧ BF P #[.int .i64 N'.id, .int .i64 N'.nd, .int .i64 N'.tm, .int .i64 N'.vt, .int .i64 N'.ro, .bool N'.up, .slice eA N'.l.length eC, .int .i64 N'.cm, .int .i64 N'.el, .int .i64 N'.wt, .slice vA N'.lv.length vC, .slice xA N'.lx.length xC, .slice gA N'.lg.length gC, .slice a1 n1 c1] w' ∧ (w'.ownsRow (w.heap.size + 2) 68 2 (.slice eA N'.l.length eC) N'.l.length (cE N'.l) ∧ w'.ownsRow (w.heap.size + 2) 3 1 (.slice vA N'.lv.length vC) N'.lv.length (cI N'.lv) ∧ w'.ownsRow (w.heap.size + 2) 3 1 (.slice xA N'.lx.length xC) N'.lx.length (cI N'.lx) ∧ w'.ownsRow (w.heap.size + 2) 3 1 (.slice gA N'.lg.length gC) N'.lg.length (cI N'.lg)) ∧ MOwn w' (w.heap.size + 2) (.slice a1 n1 c1) L1 ∧ L1.map (·.1) = M ∧ Below (w.heap.size + 2) w4 w') := by
    have hn1 := unhide HN
    have hn2 := unhide HNv
    have hn3 := unhide HNx
    have hn4 := unhide HNg
    subst hn1 hn2 hn3 hn4
    exact stickA P (w.heap.size + 2) ⟨id, nd, tm, vt, ro, true, l, cm, el, wt, lv, lx, lg⟩ hB rfl dr hdr eA eC vA vC xA xC gA gC g0 0 w4 hP4 (unhide ZP) e4 v4 x4 g4 hO4 (by omega) d2 (fun e => by have := (le P e).2; omega) (fun e => by have := (lv' P e).2; omega) (fun e => by have := (lx' P e).2; omega) (fun e => by have := (lg' P e).2; omega) N' M (unhide HNM)
  have HW4 := hide hw4
  have HG0 := hide hg0
  have HPP := hide hP
  clear he hv hx hg d1 d2 hb3 hb4 hw4 hg0 hP hP4 hO4 e4 v4 x4 g4 le lv' lx' lg' sz3 B0 A0 Z0 ka
  go_upto_region 2 with fail
  rw [← unhide HG0, ← unhide HPP, ← unhide HW4]
  clear HW4 HG0 HPP
  go_wp2_with fail
  refine (unhide T).mono ?_
  clear T
  rintro e w10 ⟨eB, eD, vB, vD, xB, xD, gB, gD, a1, n1, c1, L1, rfl, hP10, ⟨y1, y2, y3, y4⟩, hM10, hL10, hb10⟩
  have kp10 := hP10.S
  have P11 := hide hP10.drew
  have Z11 := hide ((unhide Z4).keep hb10.size (hb10.block _ (by omega))).drew
  have bd : Below w10.heap.size w10 w10.drew := (Below.refl _ _).drew
  have Y11 : Hid ((w10.drew.ownsRow (w.heap.size + 2) 68 2 (.slice eB N'.l.length eD) N'.l.length (cE N'.l) ∧ w10.drew.ownsRow (w.heap.size + 2) 3 1 (.slice vB N'.lv.length vD) N'.lv.length (cI N'.lv) ∧ w10.drew.ownsRow (w.heap.size + 2) 3 1 (.slice xB N'.lx.length xD) N'.lx.length (cI N'.lx) ∧ w10.drew.ownsRow (w.heap.size + 2) 3 1 (.slice gB N'.lg.length gD) N'.lg.length (cI N'.lg)) ∧ MOwn w10.drew (w.heap.size + 2) (.slice a1 n1 c1) L1 ∧ Below w.heap.size w w10.drew) :=
    ⟨⟨((heldZ_of y1).below bd (Nat.le_refl _)).own, ((heldZ_of y2).below bd (Nat.le_refl _)).own, ((heldZ_of y3).below bd (Nat.le_refl _)).own, ((heldZ_of y4).below bd (Nat.le_refl _)).own⟩, hM10.below bd, ((unhide B4).trans (hb10.mono (by omega))).drew⟩
  have HLL := hide hL10
  clear hP10 hM10 hL10 hb10 bd y1 y2 y3 y4 B4 Z4
  go_wp2_with fail
  refine wp_region_held_drew (S := fun w' => ∀ o, w'.cell? ⟨P, o, none⟩ = (#[.int .i64 N'.id, .int .i64 N'.nd, .int .i64 N'.tm, .int .i64 N'.vt, .int .i64 N'.ro, .bool N'.up, .slice eB N'.l.length eD, .int .i64 N'.cm, .int .i64 N'.el, .int .i64 N'.wt, .slice vB N'.lv.length vD, .slice xB N'.lx.length xD, .slice gB N'.lg.length gD, .slice a1 n1 c1] : Array Value)[o]?) (by kernel_rfl) kp10 (fun hHeld => ?_)
  generalize w10.drew = w11 at P11 Z11 Y11 hHeld ⊢
  refine wtk (i := 0) (oi := { dst := some 15, op := .move (.tmp 6), type := 64, pos := "l08_raft.go:158", after := #[], guard := none }) (v := ?_) rfl (Or.inl ⟨by rfl, ?_⟩) (by assumption) ?_
  rotate_left 1
  · (intro w' hSw; (try dsimp only at hSw); go_simp; try with_reducible rfl)
  try simp only [Act.put, qqA, qqB, qqC]
  refine wtk (i := 1) (oi := { dst := some 16, op := .nilCheck (.tmp 15), type := 0, pos := "l08_raft.go:158", after := #[{ on := 0, ground := .data }], guard := none }) (v := ?_) rfl (Or.inl ⟨by rfl, ?_⟩) (by assumption) ?_
  rotate_left 1
  · (intro w' hSw; (try dsimp only at hSw); go_simp; try with_reducible rfl)
  try simp only [Act.put, qqA, qqB, qqC]
  refine wtk (i := 2) (oi := { dst := some 17, op := .fieldAddr 66 (.tmp 16) 0, type := 0, pos := "l08_raft.go:158", after := #[{ on := 1, ground := .data }], guard := none }) (v := ?_) rfl (Or.inl ⟨by rfl, ?_⟩) (by assumption) ?_
  rotate_left 1
  · (intro w' hSw; (try dsimp only at hSw); go_simp; try with_reducible rfl)
  try simp only [Act.put, qqA, qqB, qqC]
  refine wtk (i := 3) (oi := { dst := some 18, op := .load 29 (.tmp 17), type := 29, pos := "l08_raft.go:158", after := #[{ on := 2, ground := .data }], guard := none }) (v := ?_) rfl (Or.inl ⟨by rfl, ?_⟩) (by assumption) ?_
  rotate_left 1
  · (intro w' hSw; (try dsimp only at hSw); go_simp; try with_reducible rfl)
  try simp only [Act.put, qqA, qqB, qqC]
  refine wtk (i := 4) (oi := { dst := some 19, op := .move (.tmp 6), type := 64, pos := "l08_raft.go:158", after := #[{ on := 8, ground := .gcOnly Go.Departure.lateStores }], guard := none }) (v := ?_) rfl (Or.inl ⟨by rfl, ?_⟩) (by assumption) ?_
  rotate_left 1
  · (intro w' hSw; (try dsimp only at hSw); go_simp; try with_reducible rfl)
  try simp only [Act.put, qqA, qqB, qqC]
  refine wtk (i := 5) (oi := { dst := some 20, op := .nilCheck (.tmp 19), type := 0, pos := "l08_raft.go:158", after := #[{ on := 4, ground := .data }, { on := 8, ground := .gcOnly Go.Departure.lateStores }], guard := none }) (v := ?_) rfl (Or.inl ⟨by rfl, ?_⟩) (by assumption) ?_
  rotate_left 1
  · (intro w' hSw; (try dsimp only at hSw); go_simp; try with_reducible rfl)
  try simp only [Act.put, qqA, qqB, qqC]
  refine wtk (i := 6) (oi := { dst := some 21, op := .fieldAddr 66 (.tmp 20) 1, type := 0, pos := "l08_raft.go:158", after := #[{ on := 5, ground := .data }, { on := 8, ground := .gcOnly Go.Departure.lateStores }], guard := none }) (v := ?_) rfl (Or.inl ⟨by rfl, ?_⟩) (by assumption) ?_
  rotate_left 1
  · (intro w' hSw; (try dsimp only at hSw); go_simp; try with_reducible rfl)
  try simp only [Act.put, qqA, qqB, qqC]
  refine wtk (i := 7) (oi := { dst := some 22, op := .load 30 (.tmp 21), type := 30, pos := "l08_raft.go:158", after := #[{ on := 6, ground := .data }, { on := 8, ground := .gcOnly Go.Departure.lateStores }], guard := none }) (v := ?_) rfl (Or.inl ⟨by rfl, ?_⟩) (by assumption) ?_
  rotate_left 1
  · (intro w' hSw; (try dsimp only at hSw); go_simp; try with_reducible rfl)
  try simp only [Act.put, qqA, qqB, qqC]
  refine wpAnyH_ready (rs := [8]) (by kernel_rfl) (by simp) ?_
  refine AllReadyH.cons (o := { dst := none, op := .store 29 (.tmp 4) (.tmp 18), type := 0, pos := "l08_raft.go:158", after := #[{ on := 3, ground := .data }, { on := 0, ground := .phase }, { on := 1, ground := .phase }, { on := 2, ground := .phase }, { on := 3, ground := .phase }, { on := 4, ground := .textOnly Go.Departure.lateStores }, { on := 5, ground := .textOnly Go.Departure.lateStores }, { on := 6, ground := .textOnly Go.Departure.lateStores }, { on := 7, ground := .textOnly Go.Departure.lateStores }], guard := none }) rfl (fun K hK => ?_) AllReadyH.nil
  have kz := (unhide Z11).S
  have kzf := (unhide Z11).F
  obtain ⟨wz, hvz, hFZ, hfz, hbz⟩ := put13 w11 (unhide Z11) (.int .i64 N'.id) (.int .i64 N'.nd) (.int .i64 N'.tm) (.int .i64 N'.vt) (.int .i64 N'.ro) (.bool N'.up) (.slice eB N'.l.length eD) (.int .i64 N'.cm) (.int .i64 N'.el) (.int .i64 N'.wt) (.slice vB N'.lv.length vD) (.slice xB N'.lx.length xD) (.slice gB N'.lg.length gD)
  have P12 := (unhide P11).keep hbz.size (hfz P (by have := unhide ZP; omega))
  go_simp
  rw [← hvz]
  refine hK.out _ _ ?_ (fun hHeld8 => ?_)
  · exact P12.S
  clear hK K
  try simp only [Act.put, qqA, qqB, qqC]
  refine wtk (i := 9) (oi := { dst := some 5, op := .assign (.tmp 22), type := 30, pos := "l08_raft.go:158", after := #[{ on := 7, ground := .data }, { on := 8, ground := .chain }, { on := 0, ground := .phase }, { on := 1, ground := .phase }, { on := 2, ground := .phase }, { on := 3, ground := .phase }, { on := 4, ground := .phase }, { on := 5, ground := .phase }, { on := 6, ground := .phase }, { on := 7, ground := .phase }, { on := 8, ground := .phase }], guard := none }) (v := ?_) rfl (Or.inl ⟨by rfl, ?_⟩) (by assumption) ?_
  rotate_left 1
  · (intro w' hSw; (try dsimp only at hSw); go_simp; try with_reducible rfl)
  try simp only [Act.put, qqA, qqB, qqC]
  refine wpAnyH_done (by kernel_rfl) ?_ _
  have kf := hFZ.S
  obtain ⟨⟨y1, y2, y3, y4⟩, y5, y6⟩ := unhide Y11
  have FIN : Hid ((wz.ownsRow w.heap.size 68 2 (.slice eB N'.l.length eD) N'.l.length (cE N'.l) ∧ wz.ownsRow w.heap.size 3 1 (.slice vB N'.lv.length vD) N'.lv.length (cI N'.lv) ∧ wz.ownsRow w.heap.size 3 1 (.slice xB N'.lx.length xD) N'.lx.length (cI N'.lx) ∧ wz.ownsRow w.heap.size 3 1 (.slice gB N'.lg.length gD) N'.lg.length (cI N'.lg)) ∧ MOwn wz w.heap.size (.slice a1 n1 c1) L1 ∧ Below w.heap.size w wz) :=
    ⟨⟨own_low (own_farJ y1 hfz (fun e => by have := (y1.lt _ e).1; omega)) (by omega), own_low (own_farJ y2 hfz (fun e => by have := (y2.lt _ e).1; omega)) (by omega), own_low (own_farJ y3 hfz (fun e => by have := (y3.lt _ e).1; omega)) (by omega), own_low (own_farJ y4 hfz (fun e => by have := (y4.lt _ e).1; omega)) (by omega)⟩, (y5.far hfz (by omega)).low (by omega), y6.trans (hbz.mono (Nat.le_succ _))⟩
  clear hvz hfz hbz kz kzf y1 y2 y3 y4 y5 y6 Y11 P12 P11 Z11
  go_wp2_with fail
  obtain ⟨f1, f2, f3⟩ := unhide FIN
  refine bodyPost_ret (v := .tuple #[.agg #[.int .i64 N'.id, .int .i64 N'.nd, .int .i64 N'.tm, .int .i64 N'.vt, .int .i64 N'.ro, .bool N'.up, .slice eB N'.l.length eD, .int .i64 N'.cm, .int .i64 N'.el, .int .i64 N'.wt, .slice vB N'.lv.length vD, .slice xB N'.lx.length xD, .slice gB N'.lg.length gD], .slice a1 n1 c1]) (by simp [results, Try.results19, go_sem, kf]) rfl ⟨eB, eD, vB, vD, xB, xD, gB, gD, a1, n1, c1, L1, rfl, f1, unhide HLL, f2, f3⟩
set_option maxHeartbeats 4000000 in
set_option maxRecDepth 100000 in
theorem sntick (id nd tm vt ro cm el wt : Int) (up : Bool) (a : Option Addr) (cap n : Nat) (l : List (Int × ByteArray)) (HN : Hid (l.length = n)) (av : Option Addr) (cv nv : Nat) (lv : List Int) (HNv : Hid (lv.length = nv)) (ax : Option Addr) (cx nx : Nat) (lx : List Int) (HNx : Hid (lx.length = nx)) (ag : Option Addr) (cg ng : Nat) (lg : List Int) (HNg : Hid (lg.length = ng)) (hn : n ≤ 1048576) (hnv : nv ≤ 1048576) (hnx : nx ≤ 1048576) (hng : ng ≤ 1048576) (HSZ : Hid (∀ k (h : k < l.length), l[k].2.size ≤ 1048576)) (x : Int) (N' : Nf) (M : List Mg) (cc : Int) (HIS : Hid (tkA ⟨id, nd, tm, vt, ro, up, l, cm, el, wt, lv, lx, lg⟩ x = (N', M, cc))) (w : World) (hr : RowV w a (cE l)) (hrv : RowV w av (cI lv)) (hrx : RowV w ax (cI lx)) (hrg : RowV w ag (cI lg)) :
    Calls Try.prog 5 #[.agg #[.int .i64 id, .int .i64 nd, .int .i64 tm, .int .i64 vt, .int .i64 ro, .bool up, .slice a n cap, .int .i64 cm, .int .i64 el, .int .i64 wt, .slice av nv cv, .slice ax nx cx, .slice ag ng cg], .int .i64 x] w fun e w' => SAns w' e N' M cc ∧ Below w.heap.size w w' := by
  have B0 := hide (Go.Joins.below_alloc2 w (.cells #[.int .i64 id, .int .i64 nd, .int .i64 tm, .int .i64 vt, .int .i64 ro, .bool up, .slice a n cap, .int .i64 cm, .int .i64 el, .int .i64 wt, .slice av nv cv, .slice ax nx cx, .slice ag ng cg] 29) (.cells #[.int .i64 0, .int .i64 0, .int .i64 0, .int .i64 0, .int .i64 0, .bool false, .slice none 0 0, .int .i64 0, .int .i64 0, .int .i64 0, .slice none 0 0, .slice none 0 0, .slice none 0 0] 29))
  have A0 := hide ((BF.new w #[.int .i64 id, .int .i64 nd, .int .i64 tm, .int .i64 vt, .int .i64 ro, .bool up, .slice a n cap, .int .i64 cm, .int .i64 el, .int .i64 wt, .slice av nv cv, .slice ax nx cx, .slice ag ng cg] 29).alloc (.cells #[.int .i64 0, .int .i64 0, .int .i64 0, .int .i64 0, .int .i64 0, .bool false, .slice none 0 0, .int .i64 0, .int .i64 0, .int .i64 0, .slice none 0 0, .slice none 0 0, .slice none 0 0] 29))
  have Z0 := hide (BF.new (w.alloc (.cells #[.int .i64 id, .int .i64 nd, .int .i64 tm, .int .i64 vt, .int .i64 ro, .bool up, .slice a n cap, .int .i64 cm, .int .i64 el, .int .i64 wt, .slice av nv cv, .slice ax nx cx, .slice ag ng cg] 29)) #[.int .i64 0, .int .i64 0, .int .i64 0, .int .i64 0, .int .i64 0, .bool false, .slice none 0 0, .int .i64 0, .int .i64 0, .int .i64 0, .slice none 0 0, .slice none 0 0, .slice none 0 0] 29)
  simp only [World.size_alloc] at Z0
  have HRe := hide hr
  have HRv := hide hrv
  have HRx := hide hrx
  have HRg := hide hrg
  clear hr hrv hrx hrg
  have ka := (unhide A0).S
  obtain ⟨B, hBB⟩ : ∃ B, B = nodeB id nd tm vt ro cm el wt up l lv lx lg := ⟨_, rfl⟩
  have HB := hide hBB
  obtain ⟨W, hWW⟩ : ∃ W, W = inB x 0 1000000 := ⟨_, rfl⟩
  have HW := hide hWW
  clear hBB hWW
  go_enter Try.func5, Try.ntmps5
  go_wp2_with fail
  refine (snodeok id nd tm vt ro cm el wt up a cap n l HN av cv nv lv HNv ax cx nx lx HNx ag cg ng lg HNg hn hnv hnx hng HSZ B HB _ ((unhide HRe).below (unhide B0)) ((unhide HRv).below (unhide B0)) ((unhide HRx).below (unhide B0)) ((unhide HRg).below (unhide B0))).mono ?_
  rintro e w1 ⟨rfl, hb⟩
  have B1 := hide ((unhide B0).trans (hb.mono (unhide B0).size))
  have A1 := hide ((unhide A0).below hb)
  have Z1 := hide ((unhide Z0).below hb)
  clear hb B0 A0 Z0 ka
  have ka := (unhide A1).S
  have kz := (unhide Z1).S
  have kzf := (unhide Z1).F
  have BL := hide ((unhide B1).alloc (unhide B1).size (.cells #[] 54))
  have kzl := ((unhide Z1).alloc (.cells #[] 54)).S
  have kzlf := ((unhide Z1).alloc (.cells #[] 54)).F
  rcases bdic B with hB | hB
  · subst hB
    have his := unhide HIS
    unfold tkA at his
    rw [if_pos (show nfB ⟨id, nd, tm, vt, ro, up, l, cm, el, wt, lv, lx, lg⟩ = false from (unhide HB).symm)] at his
    injection his with e1 his
    injection his with e2 e3
    subst e1 e2 e3
    clear HIS
    go_wp2_with fail
    refine bodyPost_ret (v := .tuple #[.agg #[.int .i64 0, .int .i64 0, .int .i64 0, .int .i64 0, .int .i64 0, .bool false, .slice none 0 0, .int .i64 0, .int .i64 0, .int .i64 0, .slice none 0 0, .slice none 0 0, .slice none 0 0], .slice (some ⟨w1.heap.size, 0, none⟩) 0 0, .int .i64 1]) (by simp [results, Try.results5, go_sem, kzl]) rfl ⟨⟨none, 0, none, 0, none, 0, none, 0, _, [], rfl, ⟨.inl rfl, .inl rfl, .inl rfl, .inl rfl⟩, rfl, mrow_nil _ _ _⟩, ?_⟩
    iterate 13 refine Below.setCell ?_ (by exact Nat.le_succ _) _
    exact unhide BL
  subst hB
  go_wp2_with fail
  refine (sin x 0 1000000 _).mono ?_
  rintro e w1b ⟨rfl, hw⟩
  subst hw
  rw [← unhide HW]
  have hbt : ¬ nfB ⟨id, nd, tm, vt, ro, up, l, cm, el, wt, lv, lx, lg⟩ = false := by intro h; rw [show nfB ⟨id, nd, tm, vt, ro, up, l, cm, el, wt, lv, lx, lg⟩ = true from (unhide HB).symm] at h; cases h
  rcases bdic W with hW | hW
  · subst hW
    have his := unhide HIS
    unfold tkA at his
    rw [if_neg hbt, if_pos (unhide HW).symm] at his
    clear hbt
    injection his with e1 his
    injection his with e2 e3
    subst e1 e2 e3
    clear HIS
    go_wp2_with fail
    refine bodyPost_ret (v := .tuple #[.agg #[.int .i64 0, .int .i64 0, .int .i64 0, .int .i64 0, .int .i64 0, .bool false, .slice none 0 0, .int .i64 0, .int .i64 0, .int .i64 0, .slice none 0 0, .slice none 0 0, .slice none 0 0], .slice (some ⟨w1b.heap.size, 0, none⟩) 0 0, .int .i64 4]) (by simp [results, Try.results5, go_sem, kzl]) rfl ⟨⟨none, 0, none, 0, none, 0, none, 0, _, [], rfl, ⟨.inl rfl, .inl rfl, .inl rfl, .inl rfl⟩, rfl, mrow_nil _ _ _⟩, ?_⟩
    iterate 13 refine Below.setCell ?_ (by exact Nat.le_succ _) _
    exact unhide BL
  subst hW
  have his := unhide HIS
  unfold tkA at his
  rw [if_neg hbt, if_neg (by rw [← unhide HW]; simp)] at his
  have hx0 : 0 ≤ x ∧ x ≤ 1000000 := by have h := (unhide HW).symm; unfold inB at h; simpa using h
  obtain ⟨dr, hdr⟩ : ∃ dr : Nat, x = (dr : Int) := ⟨x.toNat, by omega⟩
  subst hdr
  have hd1 : dr ≤ 1000000 := by omega
  clear hbt HIS BL kzl kzlf hx0
  rcases bdic up with hU | hU
  · subst hU
    rw [if_pos rfl] at his
    injection his with e1 his
    injection his with e2 e3
    subst e1 e2 e3
    go_wp2_with fail
    refine (sownN id nd tm vt ro cm el wt false a cap n l HN av cv nv lv HNv ax cx nx lx HNx ag cg ng lg HNg hn hnv hnx hng _ ((unhide HRe).below (unhide B1)) ((unhide HRv).below (unhide B1)) ((unhide HRx).below (unhide B1)) ((unhide HRg).below (unhide B1))).mono ?_
    rintro e w2 ⟨eA, eC, vA, vC, xA, xC, gA, gC, rfl, he, hv, hx, hg, hb⟩
    have zl : w.heap.size + 1 < w1b.heap.size := (unhide Z1).lt
    have hba : Below w2.heap.size w2 (w2.alloc (.cells #[] 54)) := Go.Joins.below_alloc1 w2 (.cells #[] 54)
    have Z2 := hide (((unhide Z1).below hb).below hba)
    have B2 := hide (((unhide B1).trans (hb.mono (unhide B1).size)).trans (hba.mono (Nat.le_trans (unhide B1).size hb.size)))
    obtain ⟨wz, hvz, hFZ, hfz, hbz⟩ := put13 (w2.alloc (.cells #[] 54)) (unhide Z2) (.int .i64 id) (.int .i64 nd) (.int .i64 tm) (.int .i64 vt) (.int .i64 ro) (.bool false) (.slice eA n eC) (.int .i64 cm) (.int .i64 el) (.int .i64 wt) (.slice vA nv vC) (.slice xA nx xC) (.slice gA ng gC)
    have e2 := ((heldZ_of he).below hba (Nat.le_refl _)).own
    have v2 := ((heldZ_of hv).below hba (Nat.le_refl _)).own
    have x2 := ((heldZ_of hx).below hba (Nat.le_refl _)).own
    have g2 := ((heldZ_of hg).below hba (Nat.le_refl _)).own
    have FIN : Hid ((RowV wz eA (cE l) ∧ RowV wz vA (cI lv) ∧ RowV wz xA (cI lx) ∧ RowV wz gA (cI lg)) ∧ Below w.heap.size w wz) :=
      ⟨⟨rowZ_at (own_farJ e2 hfz (fun e => by have := (e2.lt _ e).1; omega)), rowZ_at (own_farJ v2 hfz (fun e => by have := (v2.lt _ e).1; omega)), rowZ_at (own_farJ x2 hfz (fun e => by have := (x2.lt _ e).1; omega)), rowZ_at (own_farJ g2 hfz (fun e => by have := (g2.lt _ e).1; omega))⟩, (unhide B2).trans (hbz.mono (Nat.le_succ _))⟩
    have HVZ := hide hvz
    have kf := hFZ.S
    have HFZ := hide kf
    have kz2 := ((unhide Z1).below hb).S
    have kz2f := ((unhide Z1).below hb).F
    have kz3 := (unhide Z2).S
    have kz3f := (unhide Z2).F
    clear he hv hx hg hb hba e2 v2 x2 g2 B2 Z2 hfz hbz hFZ kf hvz zl B1 A1 Z1 ka kz kzf
    go_wp2_with fail
    rw [← unhide HVZ]
    have kf := unhide HFZ
    obtain ⟨f1, f2⟩ := unhide FIN
    have hn1 := unhide HN
    have hn2 := unhide HNv
    have hn3 := unhide HNx
    have hn4 := unhide HNg
    subst hn1 hn2 hn3 hn4
    exact bodyPost_ret (v := .tuple #[.agg #[.int .i64 id, .int .i64 nd, .int .i64 tm, .int .i64 vt, .int .i64 ro, .bool false, .slice eA l.length eC, .int .i64 cm, .int .i64 el, .int .i64 wt, .slice vA lv.length vC, .slice xA lx.length xC, .slice gA lg.length gC], .slice (some ⟨w2.heap.size, 0, none⟩) 0 0, .int .i64 13]) (by simp [results, Try.results5, go_sem, kf]) rfl ⟨⟨eA, eC, vA, vC, xA, xC, gA, gC, _, [], rfl, f1, rfl, mrow_nil _ _ _⟩, f2⟩
  subst hU
  rw [if_neg (by simp)] at his
  injection his with e1 his
  injection his with e2 e3
  subst e3
  have HNM : Hid (tkP ⟨id, nd, tm, vt, ro, true, l, cm, el, wt, lv, lx, lg⟩ dr = (N', M)) := by show _ = _; rw [← e1, ← e2]; rfl
  clear e1 e2
  go_wp2_with fail
  refine (sl08tick id nd tm vt ro cm el wt a cap n l HN av cv nv lv HNv ax cx nx lx HNx ag cg ng lg HNg hn hnv hnx hng (unhide HB).symm dr hd1 N' M HNM _ ((unhide HRe).below (unhide B1)) ((unhide HRv).below (unhide B1)) ((unhide HRx).below (unhide B1)) ((unhide HRg).below (unhide B1))).mono ?_
  rintro e w2 ⟨eB, eD, vB, vD, xB, xD, gB, gD, a1, n1, c1, L1, rfl, ⟨y1, y2, y3, y4⟩, hL, hM, hb⟩
  have zl : w.heap.size + 1 < w1b.heap.size := (unhide Z1).lt
  have hba : Below w2.heap.size w2 (w2.alloc (.cells #[.int .i64 N'.id, .int .i64 N'.nd, .int .i64 N'.tm, .int .i64 N'.vt, .int .i64 N'.ro, .bool N'.up, .slice eB N'.l.length eD, .int .i64 N'.cm, .int .i64 N'.el, .int .i64 N'.wt, .slice vB N'.lv.length vD, .slice xB N'.lx.length xD, .slice gB N'.lg.length gD] 29)) := Go.Joins.below_alloc1 w2 _
  have V2 := hide (BF.new w2 #[.int .i64 N'.id, .int .i64 N'.nd, .int .i64 N'.tm, .int .i64 N'.vt, .int .i64 N'.ro, .bool N'.up, .slice eB N'.l.length eD, .int .i64 N'.cm, .int .i64 N'.el, .int .i64 N'.wt, .slice vB N'.lv.length vD, .slice xB N'.lx.length xD, .slice gB N'.lg.length gD] 29)
  have Z2 := hide (((unhide Z1).below hb).below hba)
  have B2 := hide (((unhide B1).trans (hb.mono (unhide B1).size)).trans (hba.mono (Nat.le_trans (unhide B1).size hb.size)))
  obtain ⟨wz, hvz, hFZ, hfz, hbz⟩ := put13 (w2.alloc (.cells #[.int .i64 N'.id, .int .i64 N'.nd, .int .i64 N'.tm, .int .i64 N'.vt, .int .i64 N'.ro, .bool N'.up, .slice eB N'.l.length eD, .int .i64 N'.cm, .int .i64 N'.el, .int .i64 N'.wt, .slice vB N'.lv.length vD, .slice xB N'.lx.length xD, .slice gB N'.lg.length gD] 29)) (unhide Z2) (.int .i64 N'.id) (.int .i64 N'.nd) (.int .i64 N'.tm) (.int .i64 N'.vt) (.int .i64 N'.ro) (.bool N'.up) (.slice eB N'.l.length eD) (.int .i64 N'.cm) (.int .i64 N'.el) (.int .i64 N'.wt) (.slice vB N'.lv.length vD) (.slice xB N'.lx.length xD) (.slice gB N'.lg.length gD)
  have e2 := ((heldZ_of y1).below hba (Nat.le_refl _)).own
  have v2 := ((heldZ_of y2).below hba (Nat.le_refl _)).own
  have x2 := ((heldZ_of y3).below hba (Nat.le_refl _)).own
  have g2 := ((heldZ_of y4).below hba (Nat.le_refl _)).own
  have FIN : Hid ((RowV wz eB (cE N'.l) ∧ RowV wz vB (cI N'.lv) ∧ RowV wz xB (cI N'.lx) ∧ RowV wz gB (cI N'.lg)) ∧ MRow wz (.slice a1 n1 c1) L1 ∧ Below w.heap.size w wz) :=
    ⟨⟨rowZ_at (own_farJ e2 hfz (fun e => by have := (e2.lt _ e).1; omega)), rowZ_at (own_farJ v2 hfz (fun e => by have := (v2.lt _ e).1; omega)), rowZ_at (own_farJ x2 hfz (fun e => by have := (x2.lt _ e).1; omega)), rowZ_at (own_farJ g2 hfz (fun e => by have := (g2.lt _ e).1; omega))⟩, ((hM.below hba).far hfz zl).read, (unhide B2).trans (hbz.mono (Nat.le_succ _))⟩
  have HLL := hide hL
  have HVZ := hide hvz
  have kf := hFZ.S
  have HFZ := hide kf
  have kv := (unhide V2).S
  have kz3 := (unhide Z2).S
  have kz3f := (unhide Z2).F
  clear hb hba e2 v2 x2 g2 B2 Z2 V2 hfz hbz hFZ kf hvz zl y1 y2 y3 y4 hL hM B1 A1 Z1 ka kz kzf
  go_wp2_with fail
  rw [← unhide HVZ]
  have kf := unhide HFZ
  obtain ⟨f1, f2, f3⟩ := unhide FIN
  exact bodyPost_ret (v := .tuple #[.agg #[.int .i64 N'.id, .int .i64 N'.nd, .int .i64 N'.tm, .int .i64 N'.vt, .int .i64 N'.ro, .bool N'.up, .slice eB N'.l.length eD, .int .i64 N'.cm, .int .i64 N'.el, .int .i64 N'.wt, .slice vB N'.lv.length vD, .slice xB N'.lx.length xD, .slice gB N'.lg.length gD], .slice a1 n1 c1, .int .i64 0]) (by simp [results, Try.results5, go_sem, kf]) rfl ⟨⟨eB, eD, vB, vD, xB, xD, gB, gD, _, L1, rfl, f1, unhide HLL, f2⟩, f3⟩
end Go.Proofs.Ytjlajpnhcphngaa
