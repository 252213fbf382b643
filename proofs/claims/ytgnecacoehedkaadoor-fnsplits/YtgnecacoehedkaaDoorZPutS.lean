/- l05Of, l05Put, l05Layout, l05Own: what the specification answers. -/
import Derived.Test.YtgnecacoehedkaaDoorZAtI
import Derived.Test.YtgnecacoehedkaaDoorZG12
namespace Go.Proofs.YtgnecacoehedkaaDoor
open Go.ChangeShapes Go.WideShapes Go.ChangeAt Go.RowKit
set_option maxHeartbeats 2000000 in
set_option maxRecDepth 100000 in
theorem sof (a : Option Addr) (cap : Nat) (l : List Pt) (L : Nat) (HLL : Hid (l.length = L)) (hl : L ≤ 11) : ∀ (t : Tr) (k : Nat) (w : World), Sits l k t → RowV w a (cPt l) →
  Calls Tryd.prog 47 #[.agg #[.slice a L cap], .int .i64 (k : Int)] w fun e w' => ∃ b bs, e = .returned (.pointer (some ⟨b, 0, none⟩)) ∧ TreeNew sBx w w' t b bs ∧ Below w.heap.size w w' := by
 intro t
 induction t using Tr.ind with
 | pane n =>
  intro k w hS hr
  obtain ⟨hpk, hkl⟩ := hS.pane
  obtain ⟨b, off, ha, hblt, hc⟩ := hr.at (by rw [cPt_len, unhide HLL]; rw [unhide HLL] at hkl; omega)
  subst ha
  obtain ⟨x0, x1, x2, x3, x4⟩ := rowPt hc k hkl
  have hpk' : l[k] = ⟨n, false, 0, -1, -1⟩ := by rw [List.getElem?_eq_getElem hkl] at hpk; injection hpk
  rw [hpk'] at x0 x1 x2 x3 x4
  rw [unhide HLL] at hkl
  have hlt' : (k : Int) < (L : Int) := by omega
  have hk0 : (0 : Int) ≤ (k : Int) := by omega
  have g : ∀ (o : Obj) (j : Nat), (w.alloc o).cell? ⟨b, j, none⟩ = w.cell? ⟨b, j, none⟩ := fun o j => World.cell?_alloc_lt w o ⟨b, j, none⟩ hblt
  have y0 : ∀ o, (w.alloc o).cell? ⟨b, off + k * 5, none⟩ = some (.int .i64 n) := fun o => (g o _).trans x0
  have y1 : ∀ o, (w.alloc o).cell? ⟨b, off + k * 5 + 1, none⟩ = some (.bool false) := fun o => (g o _).trans x1
  have y2 : ∀ o, (w.alloc o).cell? ⟨b, off + k * 5 + 2, none⟩ = some (.int .i64 0) := fun o => (g o _).trans x2
  have y3 : ∀ o, (w.alloc o).cell? ⟨b, off + k * 5 + 3, none⟩ = some (.int .i64 (-1)) := fun o => (g o _).trans x3
  have y4 : ∀ o, (w.alloc o).cell? ⟨b, off + k * 5 + 4, none⟩ = some (.int .i64 (-1)) := fun o => (g o _).trans x4
  clear hc hpk hpk' g x0 x1 x2 x3 x4 hr hS
  go_enter Tryd.func47, Tryd.ntmps47
  go_wp2_with fail
  go_ret
  have ht := TreeNew.leaf (X := sBx) (w := w) (w1 := (w.alloc (Obj.cells #[.slice (some ⟨b, off, none⟩) L cap] 26)).alloc (Obj.cells #[.int .i64 n, .bool false, .int .i64 0, .int .i64 (-1), .int .i64 (-1)] 53)) (n := n) (t := 100) (by simp; omega)
  simp only [World.size_alloc] at ht
  exact ⟨_, _, rfl, ht, Go.Joins.below_alloc3 w _ _ _⟩
 | split r s l1 l2 ihl ihr =>
  intro k w hS hr
  obtain ⟨hpk, hkl, hS1, hS2⟩ := hS.split
  obtain ⟨b, off, ha, hblt, hc⟩ := hr.at (by rw [cPt_len, unhide HLL]; rw [unhide HLL] at hkl; omega)
  subst ha
  obtain ⟨x0, x1, x2, x3, x4⟩ := rowPt hc k hkl
  have hpk' : l[k] = ⟨0, r, s, ((k + 1 : Nat) : Int), ((k + 1 + l1.cnt : Nat) : Int)⟩ := by rw [List.getElem?_eq_getElem hkl] at hpk; injection hpk
  rw [hpk'] at x0 x1 x2 x3 x4
  rw [unhide HLL] at hkl
  obtain ⟨k1, hk1⟩ : ∃ k1, k1 = k + 1 := ⟨_, rfl⟩
  obtain ⟨m, hm⟩ : ∃ m, m = k1 + l1.cnt := ⟨_, rfl⟩
  rw [← hk1] at hS1 hS2 x3 x4
  rw [← hm] at hS2 x4
  have hlt' : (k : Int) < (L : Int) := by omega
  have hk0 : (0 : Int) ≤ (k : Int) := by omega
  have hk1n : ¬ (k1 : Int) = -1 := by omega
  have g : ∀ (o : Obj) (j : Nat), (w.alloc o).cell? ⟨b, j, none⟩ = w.cell? ⟨b, j, none⟩ := fun o j => World.cell?_alloc_lt w o ⟨b, j, none⟩ hblt
  have y0 : ∀ o, (w.alloc o).cell? ⟨b, off + k * 5, none⟩ = some (.int .i64 0) := fun o => (g o _).trans x0
  have y1 : ∀ o, (w.alloc o).cell? ⟨b, off + k * 5 + 1, none⟩ = some (.bool r) := fun o => (g o _).trans x1
  have y2 : ∀ o, (w.alloc o).cell? ⟨b, off + k * 5 + 2, none⟩ = some (.int .i64 s) := fun o => (g o _).trans x2
  have y3 : ∀ o, (w.alloc o).cell? ⟨b, off + k * 5 + 3, none⟩ = some (.int .i64 (k1 : Int)) := fun o => (g o _).trans x3
  have y4 : ∀ o, (w.alloc o).cell? ⟨b, off + k * 5 + 4, none⟩ = some (.int .i64 (m : Int)) := fun o => (g o _).trans x4
  have HR := hide hr
  have HI := hide ihl
  have HJ := hide ihr
  have HS1 := hide hS1
  have HS2 := hide hS2
  have HB1 := hide (Go.Joins.below_alloc2 w (.cells #[.slice (some ⟨b, off, none⟩) L cap] 26) (.cells #[.int .i64 0, .bool r, .int .i64 s, .int .i64 (k1 : Int), .int .i64 (m : Int)] 53))
  have BP := hide ((BF.new w #[.slice (some ⟨b, off, none⟩) L cap] 26).alloc (.cells #[.int .i64 0, .bool r, .int .i64 s, .int .i64 (k1 : Int), .int .i64 (m : Int)] 53))
  have BQ := hide (BF.new (w.alloc (.cells #[.slice (some ⟨b, off, none⟩) L cap] 26)) #[.int .i64 0, .bool r, .int .i64 s, .int .i64 (k1 : Int), .int .i64 (m : Int)] 53)
  rw [show (w.alloc (.cells #[.slice (some ⟨b, off, none⟩) L cap] 26)).heap.size = w.heap.size + 1 from by simp] at BQ
  have HZ1 : Hid (w.heap.size ≤ ((w.alloc (.cells #[.slice (some ⟨b, off, none⟩) L cap] 26)).alloc (.cells #[.int .i64 0, .bool r, .int .i64 s, .int .i64 (k1 : Int), .int .i64 (m : Int)] 53)).heap.size) := (unhide HB1).size
  clear hc hpk hpk' g x0 x1 x2 x3 x4 hr hS hk1 hm ihl ihr hS1 hS2
  go_enter Tryd.func47, Tryd.ntmps47
  go_wp2_with fail
  generalize (w.alloc (Obj.cells #[.slice (some ⟨b, off, none⟩) L cap] 26)).alloc (Obj.cells #[.int .i64 0, .bool r, .int .i64 s, .int .i64 (k1 : Int), .int .i64 (m : Int)] 53) = w1 at HB1 BP BQ HZ1 ⊢
  have k1' : (∀ o, w1.cell? ⟨w.heap.size, o, none⟩ = (#[.slice (some ⟨b, off, none⟩) L cap] : Array Value)[o]?) ∧ (∀ o, w1.cell? ⟨w.heap.size + 1, o, none⟩ = (#[.int .i64 0, .bool r, .int .i64 s, .int .i64 (k1 : Int), .int .i64 (m : Int)] : Array Value)[o]?) := ⟨(unhide BP).S, (unhide BQ).S⟩
  clear y0 y1 y2 y3 y4
  refine wp_region_held_drew (S := fun w' => (∀ o, w'.cell? ⟨w.heap.size, o, none⟩ = (#[.slice (some ⟨b, off, none⟩) L cap] : Array Value)[o]?) ∧ (∀ o, w'.cell? ⟨w.heap.size + 1, o, none⟩ = (#[.int .i64 0, .bool r, .int .i64 s, .int .i64 (k1 : Int), .int .i64 (m : Int)] : Array Value)[o]?)) (by kernel_rfl) k1' (fun hHeld => ?_)
  refine wtv 0 (oi := { dst := some 18, op := .fieldAddr 53 (.tmp 5) 2, type := 0, pos := "l05_layout.go:100", after := #[], guard := none }) ?_
  refine wtv 1 (oi := { dst := some 19, op := .load 3 (.tmp 18), type := 3, pos := "l05_layout.go:100", after := #[{ on := 0, ground := .data }], guard := none }) ?_
  refine wtv 2 (oi := { dst := some 20, op := .fieldAddr 53 (.tmp 5) 1, type := 0, pos := "l05_layout.go:100", after := #[], guard := none }) ?_
  refine wtv 3 (oi := { dst := some 21, op := .load 4 (.tmp 20), type := 4, pos := "l05_layout.go:100", after := #[{ on := 2, ground := .data }], guard := none }) ?_
  refine wtv 4 (oi := { dst := some 22, op := .load 26 (.tmp 2), type := 26, pos := "l05_layout.go:100", after := #[], guard := none }) ?_
  refine wtv 5 (oi := { dst := some 23, op := .fieldAddr 53 (.tmp 5) 3, type := 0, pos := "l05_layout.go:100", after := #[], guard := none }) ?_
  refine wtv 6 (oi := { dst := some 24, op := .load 3 (.tmp 23), type := 3, pos := "l05_layout.go:100", after := #[{ on := 5, ground := .data }], guard := none }) ?_
  refine wtv 8 (oi := { dst := some 26, op := .load 26 (.tmp 2), type := 26, pos := "l05_layout.go:100", after := #[], guard := none }) ?_
  refine wtv 9 (oi := { dst := some 27, op := .fieldAddr 53 (.tmp 5) 4, type := 0, pos := "l05_layout.go:100", after := #[], guard := none }) ?_
  refine wtv 10 (oi := { dst := some 28, op := .load 3 (.tmp 27), type := 3, pos := "l05_layout.go:100", after := #[{ on := 9, ground := .data }], guard := none }) ?_
  refine wpAnyH_ready (rs := [7]) (by kernel_rfl) (by simp) ?_
  refine AllReadyH.cons (o := { dst := some 25, op := .call { callee := .value (.func 47), args := #[.tmp 22, .tmp 24], argTypes := #[26, 3] }, type := 84, pos := "l05_layout.go:100", after := #[{ on := 4, ground := .data }, { on := 6, ground := .data }], guard := none }) rfl (fun K hK => ?_) AllReadyH.nil
  go_simp
  refine (unhide HI k1 _ (unhide HS1) ((unhide HR).below (unhide HB1).drew)).mono ?_
  rintro e w2 ⟨bl, Ls, rfl, ht2, hb2⟩
  have P2 := hide ((unhide BP).drew.below hb2)
  have Q2 := hide ((unhide BQ).drew.below hb2)
  have k2 : (∀ o, w2.cell? ⟨w.heap.size, o, none⟩ = (#[.slice (some ⟨b, off, none⟩) L cap] : Array Value)[o]?) ∧ (∀ o, w2.cell? ⟨w.heap.size + 1, o, none⟩ = (#[.int .i64 0, .bool r, .int .i64 s, .int .i64 (k1 : Int), .int .i64 (m : Int)] : Array Value)[o]?) := ⟨(unhide P2).S, (unhide Q2).S⟩
  have HB2 := hide ((unhide HB1).trans ((below_undrew hb2).mono (unhide HB1).size))
  have HT2 : Hid (TreeNew sBx w1 w2 l1 bl Ls) := ht2
  have HBa := hide (below_undrew hb2)
  clear ht2 hb2
  go_wp2_with fail
  refine hK.out _ _ ?_ (fun hHeld7 => ?_)
  ·exact k2
  clear hK K
  try simp only [Act.put, qqA, qqB, qqC]
  refine wpAnyH_ready (rs := [11]) (by kernel_rfl) (by simp) ?_
  refine AllReadyH.cons (o := { dst := some 29, op := .call { callee := .value (.func 47), args := #[.tmp 26, .tmp 28], argTypes := #[26, 3] }, type := 84, pos := "l05_layout.go:100", after := #[{ on := 8, ground := .data }, { on := 10, ground := .data }, { on := 7, ground := .chain }], guard := none }) rfl (fun K hK => ?_) AllReadyH.nil
  go_simp
  refine (unhide HJ m _ (unhide HS2) ((unhide HR).below (unhide HB2))).mono ?_
  rintro e w3 ⟨br, Rs, rfl, ht3, hb3⟩
  have P3 := hide ((unhide P2).below hb3)
  have Q3 := hide ((unhide Q2).below hb3)
  have k3 : (∀ o, w3.cell? ⟨w.heap.size, o, none⟩ = (#[.slice (some ⟨b, off, none⟩) L cap] : Array Value)[o]?) ∧ (∀ o, w3.cell? ⟨w.heap.size + 1, o, none⟩ = (#[.int .i64 0, .bool r, .int .i64 s, .int .i64 (k1 : Int), .int .i64 (m : Int)] : Array Value)[o]?) := ⟨(unhide P3).S, (unhide Q3).S⟩
  have HB3 := hide ((unhide HB2).trans (hb3.mono (unhide HB2).size))
  have HTN := hide (TreeNew.node (t := 100) (r := r) (s := s) (unhide HZ1) (unhide HT2) ht3 hb3)
  clear ht3 hb3
  go_wp2_with fail
  refine hK.out _ _ ?_ (fun hHeld11 => ?_)
  ·exact k3
  clear hK K
  try simp only [Act.put, qqA, qqB, qqC]
  refine wtv 12 (oi := { dst := some 30, op := .build 100 #[(1, .tmp 19), (2, .tmp 21), (4, .tmp 25), (5, .tmp 29)], type := 100, pos := "l05_layout.go:100", after := #[{ on := 1, ground := .data }, { on := 3, ground := .data }, { on := 7, ground := .data }, { on := 11, ground := .data }], guard := none }) ?_
  refine wpAnyH_ready (rs := [13]) (by kernel_rfl) (by simp) ?_
  refine AllReadyH.cons (o := { dst := some 31, op := .box 100 (.tmp 30), type := 84, pos := "l05_layout.go:100", after := #[{ on := 12, ground := .data }], guard := none }) rfl (fun K hK => ?_) AllReadyH.nil
  have P4 := hide ((unhide P3).alloc (.cells #[.int .i64 0, .int .i64 s, .bool r, .bool false, .pointer (some ⟨bl, 0, none⟩), .pointer (some ⟨br, 0, none⟩)] 100))
  have Q4 := hide ((unhide Q3).alloc (.cells #[.int .i64 0, .int .i64 s, .bool r, .bool false, .pointer (some ⟨bl, 0, none⟩), .pointer (some ⟨br, 0, none⟩)] 100))
  have HB4 := hide ((unhide HB3).alloc (unhide HB3).size (.cells #[.int .i64 0, .int .i64 s, .bool r, .bool false, .pointer (some ⟨bl, 0, none⟩), .pointer (some ⟨br, 0, none⟩)] 100))
  go_simp
  refine hK.out _ _ ?_ (fun hHeld13 => ?_)
  ·exact ⟨(unhide P4).S, (unhide Q4).S⟩
  clear hK K
  try simp only [Act.put, qqA, qqB, qqC]
  refine wtv 14 (oi := { dst := some 4, op := .assign (.tmp 31), type := 84, pos := "l05_layout.go:100", after := #[{ on := 13, ground := .data }, { on := 11, ground := .chain }, { on := 0, ground := .phase }, { on := 1, ground := .phase }, { on := 2, ground := .phase }, { on := 3, ground := .phase }, { on := 4, ground := .phase }, { on := 5, ground := .phase }, { on := 6, ground := .phase }, { on := 7, ground := .phase }, { on := 8, ground := .phase }, { on := 9, ground := .phase }, { on := 10, ground := .phase }, { on := 11, ground := .phase }, { on := 12, ground := .phase }, { on := 13, ground := .phase }], guard := none }) ?_
  refine wpAnyH_done (by kernel_rfl) ?_ _
  go_wp2_with fail
  go_ret
  exact ⟨_, _, rfl, unhide HTN, unhide HB4⟩
set_option maxHeartbeats 1000000 in
set_option maxRecDepth 100000 in
theorem sput : ∀ (t : Tr) (base b : Nat) (bs : List Nat) (v : Value) (ps : List Pt) (w : World), TreeAt sBx w t b bs → w.ownsRow base 53 5 v ps.length (cPt ps) → base ≤ w.heap.size → (∀ k ∈ bs, v.ownBlock ≠ some k) → ps.length + t.cnt ≤ 1000 →
  Calls Tryd.prog 62 #[.pointer (some ⟨b, 0, none⟩), v] w fun e w' => ∃ v', e = .returned v' ∧ w'.ownsRow base 53 5 v' (ps ++ t.flat ps.length).length (cPt (ps ++ t.flat ps.length)) ∧ w.grownBy w' v.ownBlock ∧ From w v v' := by
 intro t
 obtain ⟨i0, hi, hz0, hz1, hz2⟩ := info_parts Tryd.infL53
 induction t using Tr.ind with
 | pane n =>
  intro base b bs v ps w ht ho hbase hd hlen
  obtain ⟨rfl, hbf⟩ := ht
  obtain ⟨va, vc, rfl, -⟩ := ownZ_rowV ho
  have c0 : w.cell? ⟨b, 0, none⟩ = some (.int .i64 n) := hbf.S 0
  have c3 : w.cell? ⟨b, 3, none⟩ = some (.bool true) := hbf.S 3
  obtain ⟨N, hN⟩ : ∃ N, ps.length = N := ⟨_, rfl⟩
  rw [hN] at ho hlen
  have hown := ho
  have HN := hide hN
  have hN1 : (N : Int) ≤ 1000 := by omega
  have hN2 : N ≤ 1000 := by omega
  clear hbf ho hN hlen
  rw [unhide HN]
  go_enter Tryd.func62, Tryd.ntmps62
  go_wp2_with (at_builtin; refine wpList_append_lies _ rfl (.tmp 12) (.tmp 18) 24 rfl base 53 i0 (.agg #[.int .i64 0, .bool false, .int .i64 0, .int .i64 0, .int .i64 0]) 5 40 Tryd.underlying24 hi hz0 hz1 hz2 rfl (by decide) _ _ _ rfl (hown.alloc _) ⟨w.heap.size, 0, none⟩ 1 1 (cPt [⟨n, false, 0, -1, -1⟩]) rfl rfl (by exact news_new w (cPt [⟨n, false, 0, -1, -1⟩]) 53) (cPt_one _) (by decide) (by unfold maxLen; omega) (by omega) (by simp; omega) _ rfl ?_; intro g2 c2 w3 hown2 hgrow2 hat2 hlt2)
  rw [← cPt_app] at hown2
  have HG : Hid (w.grownBy w3 (Value.slice va N vc).ownBlock) := grown_app (grownBy_refl w _) hgrow2 (fun k hk => .inl hk)
  have HK : Hid (From w (.slice va N vc) (.slice (some ⟨g2, 0, none⟩) (N + 1) c2)) := fun k hk => by
   have hk' : g2 = k := Option.some.inj hk
   subst hk'
   rcases hat2 with h | h
   ·exact .inl h
   ·right; rw [h]; simp
  have HO2 := hide hown2
  clear hown hown2 hgrow2 hat2 hlt2
  go_wp2_with fail
  go_ret
  refine ⟨_, rfl, ?_, unhide HG, unhide HK⟩
  have o := unhide HO2
  rw [List.length_append, unhide HN]
  exact o
 | split r s l t ihl ihr =>
  intro base b bs v ps w ht ho hbase hd hlen
  obtain ⟨bl, br, Ls, Rs, rfl, hbf, htl, htr⟩ := ht
  have c1 : w.cell? ⟨b, 2, none⟩ = some (.bool r) := hbf.S 2
  have c2 : w.cell? ⟨b, 1, none⟩ = some (.int .i64 s) := hbf.S 1
  have c3 : w.cell? ⟨b, 3, none⟩ = some (.bool false) := hbf.S 3
  obtain ⟨N, hN⟩ : ∃ N, ps.length = N := ⟨_, rfl⟩
  rw [hN] at ho hlen
  obtain ⟨va, vc, rfl, -⟩ := ownZ_rowV ho
  have HBF := hide hbf
  have HO := hide ho
  have HTL := hide htl
  have HTR := hide htr
  have HD := hide hd
  have HN := hide hN
  have hN1 : (N : Int) ≤ 1000 := by omega
  have HI := hide ihl
  have HJ := hide ihr
  have HLEN := hide hlen
  simp only [Tr.cnt] at HLEN
  clear hbf ho htl htr hd hN ihl ihr hlen
  have hown := unhide HO
  obtain ⟨M, hM⟩ : ∃ M, M = N + 1 := ⟨_, rfl⟩
  have hw1 : IntKind.i64.wrap ((N : Int) + 1) = (M : Int) := by rw [wrapi _ (by omega) (by omega)]; omega
  have HM := hide hM
  clear hM
  have hblt : b < w.heap.size := (unhide HBF).lt
  have hne : some b ≠ (Value.slice va N vc).ownBlock := fun e => unhide HD b (by simp) e.symm
  have HNE := hide hne
  clear hne
  go_enter Tryd.func62, Tryd.ntmps62
  go_wp2_with fail
  go_region_held3 (fun w' => w'.cell? ⟨b, 2, none⟩ = some (.bool r) ∧ w'.cell? ⟨b, 1, none⟩ = some (.int .i64 s)) (first | go_keep | exact ⟨(hgrow1.cell_far ⟨b, 2, none⟩ (by simp; omega) (unhide HNE)).trans ((World.cell?_alloc_lt w.drew _ ⟨b, 2, none⟩ hblt).trans c1), (hgrow1.cell_far ⟨b, 1, none⟩ (by simp; omega) (unhide HNE)).trans ((World.cell?_alloc_lt w.drew _ ⟨b, 1, none⟩ hblt).trans c2)⟩) ((refine step_append_lies _ rfl _ _ 24 rfl base 53 i0 (.agg #[.int .i64 0, .bool false, .int .i64 0, .int .i64 0, .int .i64 0]) 5 40 Tryd.underlying24 hi hz0 hz1 hz2 rfl (by decide) _ _ _ rfl (by exact hown.alloc _) ⟨w.heap.size, 0, none⟩ 1 1 (cPt [⟨0, r, s, (M : Int), 0⟩]) rfl rfl (by exact news_drew w (cPt [⟨0, r, s, (M : Int), 0⟩]) 53) (cPt_one _) (by decide) (by unfold maxLen; omega) (by omega) (by simp; omega) _ rfl ?_; intro g4 c4 w4 hown1 hgrow1 hat1 hlt1))
  rw [← cPt_app] at hown1
  have HG : Hid (w.grownBy w4 (Value.slice va N vc).ownBlock) := grown_app (grownBy_drew (grownBy_refl w _)) hgrow1 (fun k hk => .inl hk)
  have HK : Hid (From w (.slice va N vc) (.slice (some ⟨g4, 0, none⟩) (N + 1) c4)) := fun k hk => by
   have hk' : g4 = k := Option.some.inj hk
   subst hk'
   rcases hat1 with h | h
   ·exact .inl h
   ·right; rw [h]; simp
  rw [← unhide HM] at hown1 HK ⊢
  have HO1 := hide hown1
  clear hown hown1 hgrow1 hat1 hlt1
  have HD4 : Hid (∀ k ∈ b :: (Ls ++ Rs), (Value.slice (some ⟨g4, 0, none⟩) M c4).ownBlock ≠ some k) := fun k hk e => by
   rcases unhide HK k e with h | h
   ·exact unhide HD k hk h
   ·have := (List.mem_cons.1 hk)
    rcases this with rfl | this
    ·omega
    ·rcases List.mem_append.1 this with this | this
     ·have := (unhide HTL).lt k this; omega
     ·have := (unhide HTR).lt k this; omega
  have BF4 := hide ((unhide HBF).grown (unhide HG) (fun e => unhide HD b (by simp) e))
  have TL4 := hide ((unhide HTL).grown (unhide HG) (fun k hk e => unhide HD k (by simp [hk]) e))
  have TR4 := hide ((unhide HTR).grown (unhide HG) (fun k hk e => unhide HD k (by simp [hk]) e))
  have d3 : w4.cell? ⟨b, 4, none⟩ = some (.pointer (some ⟨bl, 0, none⟩)) := (unhide BF4).S 4
  clear c1 c2 c3
  go_wp2_with fail
  have hlen := unhide HLEN
  have hM := unhide HM
  have hz4 : base ≤ w4.heap.size := Nat.le_trans hbase (unhide HG).size
  have hpl : (ps ++ [(⟨0, r, s, (M : Int), 0⟩ : Pt)]).length = M := by rw [List.length_append, unhide HN]; simp; omega
  have T := unhide HI base bl Ls (.slice (some ⟨g4, 0, none⟩) M c4) (ps ++ [⟨0, r, s, (M : Int), 0⟩]) w4 (unhide TL4) (by rw [hpl]; exact unhide HO1) hz4 (fun k hk => unhide HD4 k (by simp [hk])) (by rw [hpl]; omega)
  refine T.mono ?_
  clear T
  rintro e w5 ⟨v5, rfl, ho5, hg5, hf5⟩
  rw [hpl] at ho5
  obtain ⟨K, hK⟩ : ∃ K, K = M + l.cnt := ⟨_, rfl⟩
  have hl5 : (ps ++ [(⟨0, r, s, (M : Int), 0⟩ : Pt)] ++ l.flat M).length = K := by rw [List.length_append, hpl, Tr.flat_len, hK]
  rw [hl5] at ho5
  obtain ⟨va5, vc5, rfl, -⟩ := ownZ_rowV ho5
  have hN0 : ps.length = N := unhide HN
  have hK0 : 0 < K := by omega
  obtain ⟨g5, hg5'⟩ : ∃ g5, va5 = some ⟨g5, 0, none⟩ := by
   rcases ho5.2 with ⟨e, e2⟩ | ⟨g, cap, cur, e, _⟩
   ·omega
   ·cases e; exact ⟨_, rfl⟩
  subst hg5'
  have HG5 := hide (grownFrom (unhide HG) (unhide HK) hg5)
  have HF5 := hide ((unhide HK).trans hf5 (unhide HG).size)
  have HD5 : Hid (∀ k ∈ b :: (Ls ++ Rs), (Value.slice (some ⟨g5, 0, none⟩) K vc5).ownBlock ≠ some k) := fun k hk e => by
   rcases hf5 k e with h | h
   ·exact unhide HD4 k hk h
   ·have := (List.mem_cons.1 hk)
    rcases this with rfl | this
    ·have := (unhide BF4).lt; omega
    ·rcases List.mem_append.1 this with this | this
     ·have := (unhide TL4).lt k this; omega
     ·have := (unhide TR4).lt k this; omega
  have BF5 := hide ((unhide BF4).grown hg5 (fun e => unhide HD4 b (by simp) e))
  have TR5 := hide ((unhide TR4).grown hg5 (fun k hk e => unhide HD4 k (by simp [hk]) e))
  obtain ⟨Q, hQ⟩ : ∃ Q, Q = ps ++ [(⟨0, r, s, (M : Int), 0⟩ : Pt)] ++ l.flat M := ⟨_, rfl⟩
  rw [← hQ] at ho5 hl5
  have hQN : N < Q.length := by omega
  have hQat : Q[N] = ⟨0, r, s, (M : Int), 0⟩ := by
   subst hQ
   rw [List.getElem_append_left (by rw [hpl]; omega), List.getElem_append_right (by omega)]
   simp
  obtain ⟨q0, q1, q2, q3, q4⟩ := cPt_at Q N hQN
  rw [hQat] at q4
  have x4 : w5.cell? ⟨g5, N * 5 + 4, none⟩ = some (.int .i64 0) := (ho5.cellAt (N * 5 + 4) (by omega)).trans q4
  have f4 := ho5.frozenAt (N * 5 + 4)
  have hst := (ho5.stored (N * 5 + 4) (.int .i64 (K : Int))).1
  rw [cPt_set_right Q N hQN, hQat] at hst
  have HST := hide hst
  have HQ : Hid (Q.set N ⟨0, r, s, (M : Int), (K : Int)⟩ = ps ++ [⟨0, r, s, (M : Int), (K : Int)⟩] ++ l.flat M) := by
   show _ = _
   rw [hQ, List.append_assoc, List.set_append_right _ _ (by omega), hN0]
   simp
  have HG6 := hide (grownFrom (unhide HG5) (unhide HF5) (stored_grown (w := w5) (g := g5) (j := N * 5 + 4) (u := .int .i64 (K : Int))))
  have BF6 := hide ((unhide BF5).far ⟨g5, N * 5 + 4, none⟩ (.int .i64 (K : Int)) (fun e => unhide HD5 b (by simp) (by rw [← e]; rfl)))
  have TR6 := hide ((unhide TR5).grown (stored_grown (w := w5) (g := g5) (j := N * 5 + 4) (u := .int .i64 (K : Int))) (fun k hk e => unhide HD5 k (by simp [hk]) e))
  have HKK := hide hK
  have hNK : (N : Int) < (K : Int) := by omega
  have HZ5 := hide (Nat.le_trans hz4 hg5.size)
  clear hM hz4 hpl hlen hl5 hN0 hK0 hQ hQN hQat q0 q1 q2 q3 q4 hst ho5 hg5 hf5 hK d3
  have d3 : (w5.setCell ⟨g5, N * 5 + 4, none⟩ (.int .i64 (K : Int))).cell? ⟨b, 5, none⟩ = some (.pointer (some ⟨br, 0, none⟩)) := (unhide BF6).S 5
  go_wp2_with fail
  have hlen := unhide HLEN
  have hM := unhide HM
  have hK := unhide HKK
  have hN0 := unhide HN
  obtain ⟨P, hP⟩ : ∃ P, P = ps ++ [(⟨0, r, s, (M : Int), (K : Int)⟩ : Pt)] ++ l.flat M := ⟨_, rfl⟩
  have hPL : P.length = K := by rw [hP, List.length_append, List.length_append, Tr.flat_len, hN0, hK, hM]; simp
  have ho6 := unhide HST
  rw [unhide HQ, ← hP] at ho6
  have T := unhide HJ base br Rs (.slice (some ⟨g5, 0, none⟩) K vc5) P (w5.setCell ⟨g5, N * 5 + 4, none⟩ (.int .i64 (K : Int))) (unhide TR6) (by rw [hPL]; exact ho6) (by have := unhide HZ5; simpa using this) (fun k hk => unhide HD5 k (by simp [hk])) (by rw [hPL]; omega)
  refine T.mono ?_
  clear T
  rintro e w7 ⟨v7, rfl, ho7, hg7, hf7⟩
  rw [hPL] at ho7
  have HE : Hid (P ++ t.flat K = ps ++ (Tr.split r s l t).flat N) := by
   show _ = _
   rw [hP]
   simp only [Tr.flat, List.append_assoc, ← hM, ← hK, List.cons_append, List.nil_append]
  have HO7 := hide ho7
  have HG7 := hide (grownFrom (unhide HG6) (unhide HF5) hg7)
  have HF7 := hide ((unhide HF5).trans hf7 (by have := (unhide HG6).size; simpa using this))
  clear hlen hM hK hN0 hP hPL ho6 ho7 hg7 hf7
  go_wp2_with fail
  go_ret
  refine ⟨_, rfl, ?_, unhide HG7, unhide HF7⟩
  rw [unhide HN, ← unhide HE]
  exact unhide HO7
set_option maxHeartbeats 400000 in
set_option maxRecDepth 100000 in
theorem slayout (t : Tr) (b : Nat) (bs : List Nat) (w : World) (ht : TreeAt sBx w t b bs) (hc : t.cnt ≤ 1000) :
  Calls Tryd.prog 49 #[.pointer (some ⟨b, 0, none⟩)] w fun e w' => ∃ a cap, e = .returned (.agg #[.slice a t.cnt cap]) ∧ w'.ownsRow w.heap.size 53 5 (.slice a t.cnt cap) t.cnt (cPt (t.flat 0)) ∧ Below w.heap.size w w' := by
 have HB0 := hide (Go.Joins.below_alloc2 w (Obj.cells #[.slice none 0 0] 26) (Obj.cells #[] 53))
 have HT := hide ((ht.alloc (Obj.cells #[.slice none 0 0] 26)).alloc (Obj.cells #[] 53))
 have HLT := hide ht.lt
 have HO := hide (World.ownsRow_lit (e := 53) (base := w.heap.size + 1) (size := 5) (w.alloc (Obj.cells #[.slice none 0 0] 26)) #[] 0 (by simp) (by decide) rfl)
 rw [show (w.alloc (Obj.cells #[.slice none 0 0] 26)).heap.size = w.heap.size + 1 from by simp] at HO
 have BX := hide ((BF.new w #[.slice none 0 0] 26).alloc (Obj.cells #[] 53))
 clear ht
 go_enter Tryd.func49, Tryd.ntmps49
 go_wp2_with fail
 refine (sput t (w.heap.size + 1) b bs (.slice (some ⟨w.heap.size + 1, 0, none⟩) 0 0) [] _ (unhide HT) (unhide HO) (by simp) (fun k hk h => by have := unhide HLT k hk; have h2 : w.heap.size + 1 = k := Option.some.inj h; omega) (by simpa using hc)).mono ?_
 rintro e w2 ⟨v2, rfl, ho2, hg2, hf2⟩
 rw [List.nil_append, Tr.flat_len] at ho2
 obtain ⟨va, vc, rfl, -⟩ := ownZ_rowV ho2
 have B2 := (unhide BX).grown hg2 (fun h => by have h2 : w.heap.size + 1 = w.heap.size := Option.some.inj h; omega)
 have x0 := B2.S 0
 have x1 := B2.F 0
 have HO2 := hide ho2
 have HB2 := hide ((unhide HB0).grown hg2 (by simp; omega) (fun k hk => by have h2 : w.heap.size + 1 = k := Option.some.inj hk; omega))
 clear ho2 hg2 hf2 B2
 go_wp2_with fail
 refine bodyPost_ret (v := .agg #[.slice va t.cnt vc]) (by simp [results, Tryd.results49, go_sem, x0]) rfl ⟨va, vc, rfl, ?_, ?_⟩
 ·refine Go.Joins.ownsRow_le (base := w.heap.size + 1) ?_ (by omega)
  exact ownsRow_setCell_below (unhide HO2) (by exact Nat.lt_succ_self _) _
 ·exact Below.setCell (unhide HB2) (by exact Nat.le_refl _) _
set_option maxHeartbeats 400000 in
set_option maxRecDepth 100000 in
theorem sown (a : Option Addr) (cap L : Nat) (l : List Pt) (HLL : Hid (l.length = L)) (hl : L ≤ 1000) (hl0 : 0 < L) (w : World) (hr : RowV w a (cPt l)) :
  Calls Tryd.prog 23 #[.agg #[.slice a L cap]] w fun e w' => ∃ a2 cap2, e = .returned (.agg #[.slice a2 L cap2]) ∧ w'.ownsRow w.heap.size 53 5 (.slice a2 L cap2) L (cPt l) ∧ Below w.heap.size w w' := by
 obtain ⟨i0, hi, hz0, hz1, hz2⟩ := info_parts Tryd.infL53
 obtain ⟨b, off, ha, hblt, hc⟩ := hr.at (by rw [cPt_len, unhide HLL]; omega)
 subst ha
 have HO := hide (World.ownsRow_lit (e := 53) (base := w.heap.size + 2) (size := 5) ((w.alloc (Obj.cells #[.slice (some ⟨b, off, none⟩) L cap] 26)).alloc (Obj.cells #[.slice none 0 0] 26)) #[] 0 (by simp) (by decide) rfl)
 have HB0 := hide (Go.Joins.below_alloc3 w (Obj.cells #[.slice (some ⟨b, off, none⟩) L cap] 26) (Obj.cells #[.slice none 0 0] 26) (Obj.cells #[] 53))
 have BX := hide (((BF.new (w.alloc (Obj.cells #[.slice (some ⟨b, off, none⟩) L cap] 26)) #[.slice none 0 0] 26)).alloc (Obj.cells #[] 53))
 rw [show (w.alloc (Obj.cells #[.slice (some ⟨b, off, none⟩) L cap] 26)).heap.size = w.heap.size + 1 from by simp] at BX
 simp only [World.size_alloc] at HO
 have hown := unhide HO
 have HNW : Hid (∀ j u, (cPt l)[j]? = some u → (((w.alloc (Obj.cells #[.slice (some ⟨b, off, none⟩) L cap] 26)).alloc (Obj.cells #[.slice none 0 0] 26)).alloc (Obj.cells #[] 53)).cell? ((⟨b, off, none⟩ : Addr).add j) = some u) := fun j u hu => by
  rw [show (⟨b, off, none⟩ : Addr).add j = ⟨b, off + j, none⟩ from by unfold Addr.add; split <;> simp_all]
  exact ((unhide HB0).cell (p := ⟨b, off + j, none⟩) hblt).trans (hc j u hu)
 clear hr hc
 go_enter Tryd.func23, Tryd.ntmps23
 go_wp2_with (at_builtin; refine wpList_append_lies _ rfl (.tmp 3) (.tmp 5) 24 rfl (w.heap.size + 2) 53 i0 (.agg #[.int .i64 0, .bool false, .int .i64 0, .int .i64 0, .int .i64 0]) 5 40 Tryd.underlying24 hi hz0 hz1 hz2 rfl (by decide) _ _ _ rfl hown ⟨b, off, none⟩ L cap (cPt l) rfl (by rw [cPt_len, unhide HLL]) (unhide HNW) (cPt_one _) hl0 (by unfold maxLen; omega) (by omega) (by simp) _ rfl ?_; intro g2 c2 w3 hown2 hgrow2 hat2 hlt2; have B2 := (unhide BX).grown hgrow2 (fun h => by have := (hown.lt _ h).1; omega); have x0 : w3.cell? ⟨w.heap.size + 1, 0, none⟩ = some (.slice none 0 0) := B2.S 0; have x1 := B2.F 0)
 rw [List.nil_append, Nat.zero_add] at hown2
 have HO2 := hide hown2
 have HB2 := hide ((unhide HB0).grown hgrow2 (by simp; omega) (fun k hk => by have := (hown.lt k hk).1; omega))
 clear hown hown2 hgrow2 hat2 hlt2 B2
 refine bodyPost_ret (v := .agg #[.slice (some ⟨g2, 0, none⟩) L c2]) (by simp [results, Tryd.results23, go_sem, x0]) rfl ⟨_, _, rfl, ?_, ?_⟩
 ·refine Go.Joins.ownsRow_le (base := w.heap.size + 2) ?_ (by omega)
  exact ownsRow_setCell_below (unhide HO2) (by exact Nat.lt_succ_self _) _
 ·exact Below.setCell (unhide HB2) (by exact Nat.le_succ _) _
end Go.Proofs.YtgnecacoehedkaaDoor
